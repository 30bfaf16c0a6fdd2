/- JoinPonds: the model's. -/
import Derived.Test.YtncdkfkihfhcgaaPond8
import Derived.Test.YtncdkfkihfhcgaaCut
namespace Go.Proofs.Ytncdkfkihfhcgaa.JPond
open Go.RowKit Go.Proofs.Ytncdkfkihfhcgaa.Mem Go.Proofs.Ytncdkfkihfhcgaa.Base Go.Proofs.Ytncdkfkihfhcgaa.Within Go.Proofs.Ytncdkfkihfhcgaa.SPond Go.Proofs.Ytncdkfkihfhcgaa.Regn Go.Proofs.Ytncdkfkihfhcgaa.Boxes Go.Proofs.Ytncdkfkihfhcgaa.Pond Go.Proofs.Ytncdkfkihfhcgaa.Pond2 Go.Proofs.Ytncdkfkihfhcgaa.Pond3 Go.Proofs.Ytncdkfkihfhcgaa.Pond4 Go.Proofs.Ytncdkfkihfhcgaa.IPond Go.Proofs.Ytncdkfkihfhcgaa.IPond2 Go.Proofs.Ytncdkfkihfhcgaa.Pond6 Go.Proofs.Ytncdkfkihfhcgaa.Pond7 Go.Proofs.Ytncdkfkihfhcgaa.Keep Go.Proofs.Ytncdkfkihfhcgaa.PClone Go.Proofs.Ytncdkfkihfhcgaa.Cut
set_option linter.unusedVariables false
set_option maxRecDepth 100000
def oL (x y : R) : Int := least x.f1 y.f1
def oT (x y : R) : Int := least x.f2 y.f2
def oD (x y : R) : Int := least x.f5 y.f5
def oW (x y : R) : Int := most (x.f1 + x.f3) (y.f1 + y.f3) - oL x y
def oH (x y : R) : Int := most (x.f2 + x.f4) (y.f2 + y.f4) - oT x y
/-- the smallest rectangle around both. -/
def around (a : Int) (x y : R) : R := ⟨a, oL x y, oT x y, oW x y, oH x y, oD x y⟩
theorem around_bd {x y : R} (hx : okP x = true) (hy : okP y = true) : 0 ≤ oL x y ∧ oL x y ≤ 49 ∧ 0 ≤ oT x y ∧ oT x y ≤ 49 ∧ 1 ≤ oW x y ∧ oW x y ≤ 50 ∧ 1 ≤ oH x y ∧ oH x y ≤ 50 ∧ -50 ≤ most (x.f1 + x.f3) (y.f1 + y.f3) ∧ most (x.f1 + x.f3) (y.f1 + y.f3) ≤ 50 ∧ -50 ≤ most (x.f2 + x.f4) (y.f2 + y.f4) ∧ most (x.f2 + x.f4) (y.f2 + y.f4) ≤ 50 := by
  obtain ⟨_, _, a1, a2, a3, a4, a5, a6, a7, a8, a9, a10, _, _⟩ := okP_true hx
  obtain ⟨_, _, b1, b2, b3, b4, b5, b6, b7, b8, b9, b10, _, _⟩ := okP_true hy
  unfold oW oH oL oT least most
  split <;> split <;> split <;> split <;> omega
/-- both fill it. -/
def fills (x y : R) : Bool := decide (oW x y * oH x y = x.f3 * x.f4 + y.f3 * y.f4)
def joinRow (l : List R) (i k : Nat) (p : R) : List R := (l.set i p).eraseIdx k
theorem er_keep {M : List R} {m k : Nat} (hm : m < M.length) (hne : m ≠ k) : (M.take (m + 1)).eraseIdx k = (M.take m).eraseIdx k ++ [M[m]] := by
  rw [List.take_succ_eq_append_getElem hm]
  rcases Nat.lt_or_ge k m with h | h
  · rw [List.eraseIdx_append_of_lt_length (by rw [List.length_take]; omega)]
  · rw [List.eraseIdx_of_length_le (by simp; omega), List.eraseIdx_of_length_le (by rw [List.length_take]; omega)]
theorem er_skip {M : List R} {m : Nat} (hm : m < M.length) : (M.take (m + 1)).eraseIdx m = (M.take m).eraseIdx m := by
  rw [List.take_succ_eq_append_getElem hm, List.eraseIdx_append_of_length_le (by rw [List.length_take]; omega), List.eraseIdx_of_length_le (l := M.take m) (by rw [List.length_take]; omega)]
  have : m - (M.take m).length = 0 := by rw [List.length_take]; omega
  rw [this]; simp
def ji (l : List R) (a : Int) : Nat := (find l a).toNat
def jp (l : List R) (a b : Int) : R := around a (at_ l (find l a)) (at_ l (find l b))
def joinOk (l : List R) (a b : Int) : Bool := decide (Two l a b) && fills (at_ l (find l a)) (at_ l (find l b)) && good (joinRow l (ji l a) (ji l b) (jp l a b))
def joinL (l : List R) (a b : Int) : List R := if joinOk l a b = true then joinRow l (ji l a) (ji l b) (jp l a b) else []
theorem join_no {l : List R} {a b : Int} (h : joinOk l a b = false) : joinL l a b = [] := by unfold joinL; rw [h]; rfl
theorem jok_two {l : List R} {a b : Int} (h : ¬ Two l a b) : joinOk l a b = false := by unfold joinOk; rw [decide_eq_false h]; rfl
theorem jok_in {l : List R} {a b : Int} {i k : Nat} {x y : R} (h : Two l a b) (hi : find l a = i) (hk : find l b = k) (hil : i < l.length) (hkl : k < l.length) (hx : l[i] = x) (hy : l[k] = y) :
    joinOk l a b = (fills x y && good (joinRow l i k (around a x y))) ∧ (joinOk l a b = true → joinL l a b = joinRow l i k (around a x y)) := by
  have e1 : at_ l (find l a) = x := by unfold at_; rw [hi, Int.toNat_natCast, getD_at hil, hx]
  have e2 : at_ l (find l b) = y := by unfold at_; rw [hk, Int.toNat_natCast, getD_at hkl, hy]
  have e3 : ji l a = i := by unfold ji; rw [hi, Int.toNat_natCast]
  have e4 : ji l b = k := by unfold ji; rw [hk, Int.toNat_natCast]
  have e5 : jp l a b = around a x y := by unfold jp; rw [e1, e2]
  constructor
  · unfold joinOk; rw [decide_eq_true h, e1, e2, e3, e4, e5]; rfl
  · intro hok; unfold joinL; rw [if_pos hok, e3, e4, e5]
def JPost (L : List R) (q : Bool) (w : World) (e : Ending) (w' : World) : Prop :=
  ∃ A c, e = .returned (.tuple #[.slice A L.length c, .bool q]) ∧ w'.ownsRow w.heap.size 54 6 (.slice A L.length c) L.length (flat L) ∧ Below w.heap.size w w'
theorem j_mk {L M : List R} {q r : Bool} {w w' : World} {A : Option Addr} {c : Nat} {v : Value} (hL : L = M) (hq : q = r) (h : v = .tuple #[.slice A M.length c, .bool r])
    (ho : w'.ownsRow w.heap.size 54 6 (.slice A M.length c) M.length (flat M)) (hB : Below w.heap.size w w') : JPost L q w (.returned v) w' := by
  subst hL; subst hq; exact ⟨A, c, by rw [h], ho, hB⟩
theorem join_len (l : List R) (i k : Nat) (p : R) (hk : k < l.length) : (joinRow l i k p).length = l.length - 1 := by
  unfold joinRow; rw [List.length_eraseIdx]; simp [hk]
set_option maxHeartbeats 1600000 in
theorem join_spec (P : Option Addr) (cap : Nat) (l : List R) (a b : Int) (w : World) (hr : Rd w w.heap.size P (flat l)) (hn : l.length ≤ 1048576) :
    Calls Try.prog 16 #[.slice P l.length cap, .int .i64 a, .int .i64 b] w (JPost (joinL l a b) (joinOk l a b) w) := by
  obtain ⟨i0, hi0, hz0, hz1, hz2⟩ := info_parts info_T
  have HI := Lib.hid hz2; clear hz2
  have HI1 := Lib.hid hz1; clear hz1
  have HR := Lib.hid hr; clear hr
  go_enter Try.func16, Try.ntmps16
  go_wp2_with fail
  refine (find_spec P cap l a w HR.out hn).mono ?_
  rintro e w1 ⟨rfl, HB⟩
  have HR1 := Lib.hid (rd_keep HR.out HB)
  go_wp2_with fail
  refine (find_spec P cap l b w1 HR1.out hn).mono ?_
  rintro e w2 ⟨rfl, HB2⟩
  replace HB := be HB HB2; clear HB2 HR1
  by_cases h0 : 0 ≤ find l a
  · by_cases h1 : 0 ≤ find l b
    · obtain ⟨i, hi, hil, _, hg⟩ := find_ok h0
      obtain ⟨k, hk, hkl, _, _⟩ := find_ok h1
      have hik := two_ne hi hk
      have hg1 := (good_all hg).1
      by_cases he : i = k
      · have HNO := Lib.hid (jok_two (l := l) (a := a) (b := b) (fun h => h.2.2 (hik.1 he)))
        rw [hi, hk]; clear hi hk h0 h1
        subst he
        clear hik
        go_wp2
        go_ret2
        exact j_mk (join_no HNO.out) HNO.out rfl (empty_own HB) (al HB)
      obtain ⟨x, hx⟩ : ∃ x, l[i] = x := ⟨_, rfl⟩
      obtain ⟨y, hy⟩ : ∃ y, l[k] = y := ⟨_, rfl⟩
      have HIN := Lib.hid (jok_in ⟨h0, h1, fun h => he (hik.2 h)⟩ hi hk hil hkl hx hy)
      rw [hi, hk]; clear hi hk h0 h1 hik
      have hq : ((i : Int) == (k : Int)) = false := by simp; omega
      have hox := (good_all hg).2 i hil; rw [hx] at hox
      have hoy := (good_all hg).2 k hkl; rw [hy] at hoy
      obtain ⟨o1, o, rfl, hb, hc⟩ := HR.out.at (k := i * 6) (by rw [flat_n]; omega)
      obtain ⟨x0, x1, x2, x3, x4, x5⟩ := cells6 HB hb hc hil hx
      obtain ⟨y0, y1, y2, y3, y4, y5⟩ := cells6 HB hb hc hkl hy
      have HC := Lib.hid hc; clear hc
      have hb2 : o1 < w2.heap.size := Nat.lt_of_lt_of_le hb HB.size
      go_upto_region 4 with fail
      go_cut [10, 11] (fun p q wx => ∃ d g, p = .pointer (some ⟨d, 0, none⟩) ∧ q = .pointer (some ⟨g, 0, none⟩) ∧ d ≠ g ∧ Box d [.int .i64 x.f0, .int .i64 x.f1, .int .i64 x.f2, .int .i64 x.f3, .int .i64 x.f4, .int .i64 x.f5] w wx ∧ Box g [.int .i64 y.f0, .int .i64 y.f1, .int .i64 y.f2, .int .i64 y.f3, .int .i64 y.f4, .int .i64 y.f5] w wx)
      case first =>
        have B1 := ((Box.new HB [.int .i64 x.f0, .int .i64 x.f1, .int .i64 x.f2, .int .i64 x.f3, .int .i64 x.f4, .int .i64 x.f5] 54 (g := w2.heap.size) rfl).alloc (.cells #[.int .i64 y.f0, .int .i64 y.f1, .int .i64 y.f2, .int .i64 y.f3, .int .i64 y.f4, .int .i64 y.f5] 54)).drew
        have B2 := (Box.new (al HB (o := .cells #[.int .i64 x.f0, .int .i64 x.f1, .int .i64 x.f2, .int .i64 x.f3, .int .i64 x.f4, .int .i64 x.f5] 54)) [.int .i64 y.f0, .int .i64 y.f1, .int .i64 y.f2, .int .i64 y.f3, .int .i64 y.f4, .int .i64 y.f5] 54 (g := w2.heap.size + 1) (by simp only [size_alloc'])).drew
        have C1 := ((Box.new HB [.int .i64 y.f0, .int .i64 y.f1, .int .i64 y.f2, .int .i64 y.f3, .int .i64 y.f4, .int .i64 y.f5] 54 (g := w2.heap.size) rfl).alloc (.cells #[.int .i64 x.f0, .int .i64 x.f1, .int .i64 x.f2, .int .i64 x.f3, .int .i64 x.f4, .int .i64 x.f5] 54)).drew
        have C2 := (Box.new (al HB (o := .cells #[.int .i64 y.f0, .int .i64 y.f1, .int .i64 y.f2, .int .i64 y.f3, .int .i64 y.f4, .int .i64 y.f5] 54)) [.int .i64 x.f0, .int .i64 x.f1, .int .i64 x.f2, .int .i64 x.f3, .int .i64 x.f4, .int .i64 x.f5] 54 (g := w2.heap.size + 1) (by simp only [size_alloc'])).drew
        go_region
        all_goals (go_wp2_with fail)
        all_goals go_meet
        all_goals first | exact ⟨_, _, rfl, rfl, by omega, B1, B2⟩ | exact ⟨_, _, rfl, rfl, by omega, C2, C1⟩
      case rest =>
        obtain ⟨d, g, rfl, rfl, hdg, X, Y⟩ := hcut
        have hgd : g ≠ d := fun h => hdg h.symm
        clear x0 x1 x2 x3 x4 x5 y0 y1 y2 y3 y4 y5 HB hb2
        have X_0 := X.cells 0 _ rfl
        have X_1 := X.cells 1 _ rfl
        have X_2 := X.cells 2 _ rfl
        have X_3 := X.cells 3 _ rfl
        have X_4 := X.cells 4 _ rfl
        have X_5 := X.cells 5 _ rfl
        have X_f0 := X.free 0 (by simp)
        have X_f1 := X.free 1 (by simp)
        have X_f2 := X.free 2 (by simp)
        have X_f3 := X.free 3 (by simp)
        have X_f4 := X.free 4 (by simp)
        have X_f5 := X.free 5 (by simp)
        have X_t := X.there
        have Y_0 := Y.cells 0 _ rfl
        have Y_1 := Y.cells 1 _ rfl
        have Y_2 := Y.cells 2 _ rfl
        have Y_3 := Y.cells 3 _ rfl
        have Y_4 := Y.cells 4 _ rfl
        have Y_5 := Y.cells 5 _ rfl
        have Y_f0 := Y.free 0 (by simp)
        have Y_f1 := Y.free 1 (by simp)
        have Y_f2 := Y.free 2 (by simp)
        have Y_f3 := Y.free 3 (by simp)
        have Y_f4 := Y.free 4 (by simp)
        have Y_f5 := Y.free 5 (by simp)
        have Y_t := Y.there
        go_upto_region 5 with fail
        clear X_0 X_1 X_2 X_3 X_4 X_5 X_f0 X_f1 X_f2 X_f3 X_f4 X_f5 X_t
        clear Y_0 Y_1 Y_2 Y_3 Y_4 Y_5 Y_f0 Y_f1 Y_f2 Y_f3 Y_f4 Y_f5 Y_t
        obtain ⟨v1, hV1⟩ : ∃ V : World, V = wc.drew := ⟨_, rfl⟩
        replace X : Box (d) [.int .i64 x.f0, .int .i64 x.f1, .int .i64 x.f2, .int .i64 x.f3, .int .i64 x.f4, .int .i64 x.f5] w v1 := by rw [hV1]; exact X.drew
        replace Y : Box (g) [.int .i64 y.f0, .int .i64 y.f1, .int .i64 y.f2, .int .i64 y.f3, .int .i64 y.f4, .int .i64 y.f5] w v1 := by rw [hV1]; exact Y.drew
        refine wp_region_tail 18 (fun L w' => Pin (L 17) v1 (v1.alloc (.cells #[.int .i64 0, .int .i64 0, .int .i64 0, .int .i64 0, .int .i64 0, .int .i64 0] 54)) w') (by kernel_rfl) (by kernel_rfl) (by kernel_rfl) (by rw [← hV1]; exact Pin.start _ _) ?_
        clear hV1
        have X_0 := X.cells 0 _ rfl
        have X_1 := X.cells 1 _ rfl
        have X_2 := X.cells 2 _ rfl
        have X_3 := X.cells 3 _ rfl
        have X_4 := X.cells 4 _ rfl
        have X_5 := X.cells 5 _ rfl
        have X_f0 := X.free 0 (by simp)
        have X_f1 := X.free 1 (by simp)
        have X_f2 := X.free 2 (by simp)
        have X_f3 := X.free 3 (by simp)
        have X_f4 := X.free 4 (by simp)
        have X_f5 := X.free 5 (by simp)
        have X_t := X.there
        have Y_0 := Y.cells 0 _ rfl
        have Y_1 := Y.cells 1 _ rfl
        have Y_2 := Y.cells 2 _ rfl
        have Y_3 := Y.cells 3 _ rfl
        have Y_4 := Y.cells 4 _ rfl
        have Y_5 := Y.cells 5 _ rfl
        have Y_f0 := Y.free 0 (by simp)
        have Y_f1 := Y.free 1 (by simp)
        have Y_f2 := Y.free 2 (by simp)
        have Y_f3 := Y.free 3 (by simp)
        have Y_f4 := Y.free 4 (by simp)
        have Y_f5 := Y.free 5 (by simp)
        have Y_t := Y.there
        simp only [List.take_succ_cons, List.take_zero]
        iterate 18 (
          apply SeqH.op
          · intro L uw K hN hS hK
            first
              | (go_simp; exact hK.out _ (hS.skip (by decide)))
              | (have hE := (hS.2 (hN.out 17 (by decide +kernel))).symm; subst hE; clear hN; first | (go_simp; exact hK.out _ (hS.skip (by decide))) | (go_simp; go_at_call 44; (with_reducible refine (least_any _ _ _).mono ?_); rintro e _ ⟨rfl, rfl⟩; go_wp2_with fail; exact hK.out _ (hS.skip (by decide))) | (go_simp; exact hK.out _ Pin.put))
              | (rcases hS.two with hE | hE <;> (subst hE; clear hN; first | (go_simp; exact hK.out _ (hS.skip (by decide))) | (go_simp; go_at_call 44; (with_reducible refine (least_any _ _ _).mono ?_); rintro e _ ⟨rfl, rfl⟩; go_wp2_with fail; exact hK.out _ (hS.skip (by decide)))))
          try simp only [Act.put, List.setIfInBounds_toArray, List.set_cons_zero, List.set_cons_succ])
        refine SeqH.rest' rfl ?_
        intro L uv hL hS
        have hE := (hS.1 (hL 17 (by decide))).symm
        subst hE
        clear hS hL
        simp only [List.drop_succ_cons, List.drop_zero]
        go_upto_region 6 with fail
        have X_t2 := X.there
        have Y_t2 := Y.there
        have Z := Box.new X.below [.int .i64 a, .int .i64 (least x.f1 y.f1), .int .i64 (least x.f2 y.f2), .int .i64 0, .int .i64 0, .int .i64 (least x.f5 y.f5)] 54 (g := v1.heap.size) rfl
        clear X_0 X_1 X_2 X_3 X_4 X_5 X_f0 X_f1 X_f2 X_f3 X_f4 X_f5 X_t
        replace X := (X).alloc (.cells #[.int .i64 a, .int .i64 (least x.f1 y.f1), .int .i64 (least x.f2 y.f2), .int .i64 0, .int .i64 0, .int .i64 (least x.f5 y.f5)] 54)
        clear Y_0 Y_1 Y_2 Y_3 Y_4 Y_5 Y_f0 Y_f1 Y_f2 Y_f3 Y_f4 Y_f5 Y_t
        replace Y := (Y).alloc (.cells #[.int .i64 a, .int .i64 (least x.f1 y.f1), .int .i64 (least x.f2 y.f2), .int .i64 0, .int .i64 0, .int .i64 (least x.f5 y.f5)] 54)
        generalize (v1.alloc (.cells #[.int .i64 a, .int .i64 (least x.f1 y.f1), .int .i64 (least x.f2 y.f2), .int .i64 0, .int .i64 0, .int .i64 (least x.f5 y.f5)] 54)) = W2 at Z X Y ⊢
        have X_0 := X.cells 0 _ rfl
        have X_1 := X.cells 1 _ rfl
        have X_2 := X.cells 2 _ rfl
        have X_3 := X.cells 3 _ rfl
        have X_4 := X.cells 4 _ rfl
        have X_5 := X.cells 5 _ rfl
        have X_f0 := X.free 0 (by simp)
        have X_f1 := X.free 1 (by simp)
        have X_f2 := X.free 2 (by simp)
        have X_f3 := X.free 3 (by simp)
        have X_f4 := X.free 4 (by simp)
        have X_f5 := X.free 5 (by simp)
        have X_t := X.there
        have Y_0 := Y.cells 0 _ rfl
        have Y_1 := Y.cells 1 _ rfl
        have Y_2 := Y.cells 2 _ rfl
        have Y_3 := Y.cells 3 _ rfl
        have Y_4 := Y.cells 4 _ rfl
        have Y_5 := Y.cells 5 _ rfl
        have Y_f0 := Y.free 0 (by simp)
        have Y_f1 := Y.free 1 (by simp)
        have Y_f2 := Y.free 2 (by simp)
        have Y_f3 := Y.free 3 (by simp)
        have Y_f4 := Y.free 4 (by simp)
        have Y_f5 := Y.free 5 (by simp)
        have Y_t := Y.there
        have Z_0 := Z.cells 0 _ rfl
        have Z_1 := Z.cells 1 _ rfl
        have Z_2 := Z.cells 2 _ rfl
        have Z_3 := Z.cells 3 _ rfl
        have Z_4 := Z.cells 4 _ rfl
        have Z_5 := Z.cells 5 _ rfl
        have Z_f0 := Z.free 0 (by simp)
        have Z_f1 := Z.free 1 (by simp)
        have Z_f2 := Z.free 2 (by simp)
        have Z_f3 := Z.free 3 (by simp)
        have Z_f4 := Z.free 4 (by simp)
        have Z_f5 := Z.free 5 (by simp)
        have Z_t := Z.there
        obtain ⟨_, _, a1, a2, a3, a4, a5, a6, a7, a8, _, _, _, _⟩ := okP_true hox
        obtain ⟨_, _, b1, b2, b3, b4, b5, b6, b7, b8, _, _, _, _⟩ := okP_true hoy
        obtain ⟨_, _, _, _, hw1, hw2, hh1, hh2, _, _, _, _⟩ := around_bd hox hoy
        obtain ⟨W, hW⟩ : ∃ q, q = oW x y := ⟨_, rfl⟩
        obtain ⟨H, hH⟩ : ∃ q, q = oH x y := ⟨_, rfl⟩
        rw [← hW] at hw1 hw2
        rw [← hH] at hh1 hh2
        have HW := Lib.hid hW; have HH := Lib.hid hH; clear hW hH
        have y1 : IntKind.i64.wrap (x.f1 + x.f3) = x.f1 + x.f3 := IntWalk.i64_in _ (by omega)
        have y2 : IntKind.i64.wrap (y.f1 + y.f3) = y.f1 + y.f3 := IntWalk.i64_in _ (by omega)
        have y3 : IntKind.i64.wrap (most (x.f1 + x.f3) (y.f1 + y.f3) - least x.f1 y.f1) = W := by have e := HW.out; unfold oW oL at e; rw [← e]; exact IntWalk.i64_in _ (by omega)
        clear X_0 X_1 X_2 X_3 X_4 X_5 X_f0 X_f1 X_f2 X_f3 X_f4 X_f5 X_t
        clear Y_0 Y_1 Y_2 Y_3 Y_4 Y_5 Y_f0 Y_f1 Y_f2 Y_f3 Y_f4 Y_f5 Y_t
        clear Z_0 Z_1 Z_2 Z_3 Z_4 Z_5 Z_f0 Z_f1 Z_f2 Z_f3 Z_f4 Z_f5 Z_t
        obtain ⟨v3, hV3⟩ : ∃ V : World, V = W2.drew := ⟨_, rfl⟩
        replace X : Box (d) [.int .i64 x.f0, .int .i64 x.f1, .int .i64 x.f2, .int .i64 x.f3, .int .i64 x.f4, .int .i64 x.f5] w v3 := by rw [hV3]; exact X.drew
        replace Y : Box (g) [.int .i64 y.f0, .int .i64 y.f1, .int .i64 y.f2, .int .i64 y.f3, .int .i64 y.f4, .int .i64 y.f5] w v3 := by rw [hV3]; exact Y.drew
        replace Z : Box (v1.heap.size) [.int .i64 a, .int .i64 (least x.f1 y.f1), .int .i64 (least x.f2 y.f2), .int .i64 0, .int .i64 0, .int .i64 (least x.f5 y.f5)] w v3 := by rw [hV3]; exact Z.drew
        refine wp_region_last 15 (fun w' => v3 = w') (by kernel_rfl) (by kernel_rfl) (by kernel_rfl) hV3 ?_
        clear hV3
        have X_0 := X.cells 0 _ rfl
        have X_1 := X.cells 1 _ rfl
        have X_2 := X.cells 2 _ rfl
        have X_3 := X.cells 3 _ rfl
        have X_4 := X.cells 4 _ rfl
        have X_5 := X.cells 5 _ rfl
        have X_f0 := X.free 0 (by simp)
        have X_f1 := X.free 1 (by simp)
        have X_f2 := X.free 2 (by simp)
        have X_f3 := X.free 3 (by simp)
        have X_f4 := X.free 4 (by simp)
        have X_f5 := X.free 5 (by simp)
        have X_t := X.there
        have Y_0 := Y.cells 0 _ rfl
        have Y_1 := Y.cells 1 _ rfl
        have Y_2 := Y.cells 2 _ rfl
        have Y_3 := Y.cells 3 _ rfl
        have Y_4 := Y.cells 4 _ rfl
        have Y_5 := Y.cells 5 _ rfl
        have Y_f0 := Y.free 0 (by simp)
        have Y_f1 := Y.free 1 (by simp)
        have Y_f2 := Y.free 2 (by simp)
        have Y_f3 := Y.free 3 (by simp)
        have Y_f4 := Y.free 4 (by simp)
        have Y_f5 := Y.free 5 (by simp)
        have Y_t := Y.there
        have Z_0 := Z.cells 0 _ rfl
        have Z_1 := Z.cells 1 _ rfl
        have Z_2 := Z.cells 2 _ rfl
        have Z_3 := Z.cells 3 _ rfl
        have Z_4 := Z.cells 4 _ rfl
        have Z_5 := Z.cells 5 _ rfl
        have Z_f0 := Z.free 0 (by simp)
        have Z_f1 := Z.free 1 (by simp)
        have Z_f2 := Z.free 2 (by simp)
        have Z_f3 := Z.free 3 (by simp)
        have Z_f4 := Z.free 4 (by simp)
        have Z_f5 := Z.free 5 (by simp)
        have Z_t := Z.there
        simp only [List.take_succ_cons, List.take_zero]
        iterate 15 (
          apply SeqH.one
          · intro uw K hS hK
            subst hS
            first
              | (go_simp; exact hK.out _ rfl)
              | (go_simp; go_at_call 45; (with_reducible refine (most_any _ _ _).mono ?_); rintro e _ ⟨rfl, rfl⟩; go_wp2_with fail; exact hK.out _ rfl)
          try simp only [Act.put, List.setIfInBounds_toArray, List.set_cons_zero, List.set_cons_succ])
        refine SeqH.rest rfl ?_
        intro uv hS
        subst hS
        simp only [List.drop_succ_cons, List.drop_zero]
        go_upto_region 7 with fail
        clear X_0 X_1 X_2 X_3 X_4 X_5 X_f0 X_f1 X_f2 X_f3 X_f4 X_f5 X_t
        clear Y_0 Y_1 Y_2 Y_3 Y_4 Y_5 Y_f0 Y_f1 Y_f2 Y_f3 Y_f4 Y_f5 Y_t
        clear Z_0 Z_1 Z_2 Z_3 Z_4 Z_5 Z_f0 Z_f1 Z_f2 Z_f3 Z_f4 Z_f5 Z_t
        have X_t4 := X.there
        have Y_t4 := Y.there
        have Z_t4 := Z.there
        have X' : Box (d) [.int .i64 x.f0, .int .i64 x.f1, .int .i64 x.f2, .int .i64 x.f3, .int .i64 x.f4, .int .i64 x.f5] w _ := (X.far Z.base (by omega) 3 (.int .i64 W))
        have Y' : Box (g) [.int .i64 y.f0, .int .i64 y.f1, .int .i64 y.f2, .int .i64 y.f3, .int .i64 y.f4, .int .i64 y.f5] w _ := (Y.far Z.base (by omega) 3 (.int .i64 W))
        have Z' : Box (v1.heap.size) [.int .i64 a, .int .i64 (least x.f1 y.f1), .int .i64 (least x.f2 y.f2), .int .i64 W, .int .i64 0, .int .i64 (least x.f5 y.f5)] w _ := (Z.set 3 (.int .i64 W))
        clear X; have X := X'; clear X'
        clear Y; have Y := Y'; clear Y'
        clear Z; have Z := Z'; clear Z'
        have sz4 : (v3.setCell ⟨v1.heap.size, 3, none⟩ (.int .i64 W)).heap.size = v3.heap.size := by simp only [size_set']
        generalize (v3.setCell ⟨v1.heap.size, 3, none⟩ (.int .i64 W)) = W4 at X Y Z sz4 ⊢
        replace sz4 := Lib.hid sz4
        have X_0 := X.cells 0 _ rfl
        have X_1 := X.cells 1 _ rfl
        have X_2 := X.cells 2 _ rfl
        have X_3 := X.cells 3 _ rfl
        have X_4 := X.cells 4 _ rfl
        have X_5 := X.cells 5 _ rfl
        have X_f0 := X.free 0 (by simp)
        have X_f1 := X.free 1 (by simp)
        have X_f2 := X.free 2 (by simp)
        have X_f3 := X.free 3 (by simp)
        have X_f4 := X.free 4 (by simp)
        have X_f5 := X.free 5 (by simp)
        have X_t := X.there
        have Y_0 := Y.cells 0 _ rfl
        have Y_1 := Y.cells 1 _ rfl
        have Y_2 := Y.cells 2 _ rfl
        have Y_3 := Y.cells 3 _ rfl
        have Y_4 := Y.cells 4 _ rfl
        have Y_5 := Y.cells 5 _ rfl
        have Y_f0 := Y.free 0 (by simp)
        have Y_f1 := Y.free 1 (by simp)
        have Y_f2 := Y.free 2 (by simp)
        have Y_f3 := Y.free 3 (by simp)
        have Y_f4 := Y.free 4 (by simp)
        have Y_f5 := Y.free 5 (by simp)
        have Y_t := Y.there
        have Z_0 := Z.cells 0 _ rfl
        have Z_1 := Z.cells 1 _ rfl
        have Z_2 := Z.cells 2 _ rfl
        have Z_3 := Z.cells 3 _ rfl
        have Z_4 := Z.cells 4 _ rfl
        have Z_5 := Z.cells 5 _ rfl
        have Z_f0 := Z.free 0 (by simp)
        have Z_f1 := Z.free 1 (by simp)
        have Z_f2 := Z.free 2 (by simp)
        have Z_f3 := Z.free 3 (by simp)
        have Z_f4 := Z.free 4 (by simp)
        have Z_f5 := Z.free 5 (by simp)
        have Z_t := Z.there
        clear y1 y2 y3
        have y1 : IntKind.i64.wrap (x.f2 + x.f4) = x.f2 + x.f4 := IntWalk.i64_in _ (by omega)
        have y2 : IntKind.i64.wrap (y.f2 + y.f4) = y.f2 + y.f4 := IntWalk.i64_in _ (by omega)
        have y3 : IntKind.i64.wrap (most (x.f2 + x.f4) (y.f2 + y.f4) - least x.f2 y.f2) = H := by have e := HH.out; unfold oH oT at e; rw [← e]; exact IntWalk.i64_in _ (by omega)
        clear X_0 X_1 X_2 X_3 X_4 X_5 X_f0 X_f1 X_f2 X_f3 X_f4 X_f5 X_t
        clear Y_0 Y_1 Y_2 Y_3 Y_4 Y_5 Y_f0 Y_f1 Y_f2 Y_f3 Y_f4 Y_f5 Y_t
        clear Z_0 Z_1 Z_2 Z_3 Z_4 Z_5 Z_f0 Z_f1 Z_f2 Z_f3 Z_f4 Z_f5 Z_t
        obtain ⟨v5, hV5⟩ : ∃ V : World, V = W4.drew := ⟨_, rfl⟩
        replace X : Box (d) [.int .i64 x.f0, .int .i64 x.f1, .int .i64 x.f2, .int .i64 x.f3, .int .i64 x.f4, .int .i64 x.f5] w v5 := by rw [hV5]; exact X.drew
        replace Y : Box (g) [.int .i64 y.f0, .int .i64 y.f1, .int .i64 y.f2, .int .i64 y.f3, .int .i64 y.f4, .int .i64 y.f5] w v5 := by rw [hV5]; exact Y.drew
        replace Z : Box (v1.heap.size) [.int .i64 a, .int .i64 (least x.f1 y.f1), .int .i64 (least x.f2 y.f2), .int .i64 W, .int .i64 0, .int .i64 (least x.f5 y.f5)] w v5 := by rw [hV5]; exact Z.drew
        refine wp_region_last 15 (fun w' => v5 = w') (by kernel_rfl) (by kernel_rfl) (by kernel_rfl) hV5 ?_
        clear hV5
        have X_0 := X.cells 0 _ rfl
        have X_1 := X.cells 1 _ rfl
        have X_2 := X.cells 2 _ rfl
        have X_3 := X.cells 3 _ rfl
        have X_4 := X.cells 4 _ rfl
        have X_5 := X.cells 5 _ rfl
        have X_f0 := X.free 0 (by simp)
        have X_f1 := X.free 1 (by simp)
        have X_f2 := X.free 2 (by simp)
        have X_f3 := X.free 3 (by simp)
        have X_f4 := X.free 4 (by simp)
        have X_f5 := X.free 5 (by simp)
        have X_t := X.there
        have Y_0 := Y.cells 0 _ rfl
        have Y_1 := Y.cells 1 _ rfl
        have Y_2 := Y.cells 2 _ rfl
        have Y_3 := Y.cells 3 _ rfl
        have Y_4 := Y.cells 4 _ rfl
        have Y_5 := Y.cells 5 _ rfl
        have Y_f0 := Y.free 0 (by simp)
        have Y_f1 := Y.free 1 (by simp)
        have Y_f2 := Y.free 2 (by simp)
        have Y_f3 := Y.free 3 (by simp)
        have Y_f4 := Y.free 4 (by simp)
        have Y_f5 := Y.free 5 (by simp)
        have Y_t := Y.there
        have Z_0 := Z.cells 0 _ rfl
        have Z_1 := Z.cells 1 _ rfl
        have Z_2 := Z.cells 2 _ rfl
        have Z_3 := Z.cells 3 _ rfl
        have Z_4 := Z.cells 4 _ rfl
        have Z_5 := Z.cells 5 _ rfl
        have Z_f0 := Z.free 0 (by simp)
        have Z_f1 := Z.free 1 (by simp)
        have Z_f2 := Z.free 2 (by simp)
        have Z_f3 := Z.free 3 (by simp)
        have Z_f4 := Z.free 4 (by simp)
        have Z_f5 := Z.free 5 (by simp)
        have Z_t := Z.there
        simp only [List.take_succ_cons, List.take_zero]
        iterate 15 (
          apply SeqH.one
          · intro uw K hS hK
            subst hS
            first
              | (go_simp; exact hK.out _ rfl)
              | (go_simp; go_at_call 45; (with_reducible refine (most_any _ _ _).mono ?_); rintro e _ ⟨rfl, rfl⟩; go_wp2_with fail; exact hK.out _ rfl)
          try simp only [Act.put, List.setIfInBounds_toArray, List.set_cons_zero, List.set_cons_succ])
        refine SeqH.rest rfl ?_
        intro uv hS
        subst hS
        simp only [List.drop_succ_cons, List.drop_zero]
        go_upto_region 8 with fail
        clear X_0 X_1 X_2 X_3 X_4 X_5 X_f0 X_f1 X_f2 X_f3 X_f4 X_f5 X_t
        clear Y_0 Y_1 Y_2 Y_3 Y_4 Y_5 Y_f0 Y_f1 Y_f2 Y_f3 Y_f4 Y_f5 Y_t
        clear Z_0 Z_1 Z_2 Z_3 Z_4 Z_5 Z_f0 Z_f1 Z_f2 Z_f3 Z_f4 Z_f5 Z_t
        have X_t6 := X.there
        have Y_t6 := Y.there
        have Z_t6 := Z.there
        have X' : Box (d) [.int .i64 x.f0, .int .i64 x.f1, .int .i64 x.f2, .int .i64 x.f3, .int .i64 x.f4, .int .i64 x.f5] w _ := (X.far Z.base (by omega) 4 (.int .i64 H))
        have Y' : Box (g) [.int .i64 y.f0, .int .i64 y.f1, .int .i64 y.f2, .int .i64 y.f3, .int .i64 y.f4, .int .i64 y.f5] w _ := (Y.far Z.base (by omega) 4 (.int .i64 H))
        have Z' : Box (v1.heap.size) [.int .i64 a, .int .i64 (least x.f1 y.f1), .int .i64 (least x.f2 y.f2), .int .i64 W, .int .i64 H, .int .i64 (least x.f5 y.f5)] w _ := (Z.set 4 (.int .i64 H))
        clear X; have X := X'; clear X'
        clear Y; have Y := Y'; clear Y'
        clear Z; have Z := Z'; clear Z'
        have sz6 : (v5.setCell ⟨v1.heap.size, 4, none⟩ (.int .i64 H)).heap.size = v5.heap.size := by simp only [size_set']
        generalize (v5.setCell ⟨v1.heap.size, 4, none⟩ (.int .i64 H)) = W6 at X Y Z sz6 ⊢
        replace sz6 := Lib.hid sz6
        have X_0 := X.cells 0 _ rfl
        have X_1 := X.cells 1 _ rfl
        have X_2 := X.cells 2 _ rfl
        have X_3 := X.cells 3 _ rfl
        have X_4 := X.cells 4 _ rfl
        have X_5 := X.cells 5 _ rfl
        have X_f0 := X.free 0 (by simp)
        have X_f1 := X.free 1 (by simp)
        have X_f2 := X.free 2 (by simp)
        have X_f3 := X.free 3 (by simp)
        have X_f4 := X.free 4 (by simp)
        have X_f5 := X.free 5 (by simp)
        have X_t := X.there
        have Y_0 := Y.cells 0 _ rfl
        have Y_1 := Y.cells 1 _ rfl
        have Y_2 := Y.cells 2 _ rfl
        have Y_3 := Y.cells 3 _ rfl
        have Y_4 := Y.cells 4 _ rfl
        have Y_5 := Y.cells 5 _ rfl
        have Y_f0 := Y.free 0 (by simp)
        have Y_f1 := Y.free 1 (by simp)
        have Y_f2 := Y.free 2 (by simp)
        have Y_f3 := Y.free 3 (by simp)
        have Y_f4 := Y.free 4 (by simp)
        have Y_f5 := Y.free 5 (by simp)
        have Y_t := Y.there
        have Z_0 := Z.cells 0 _ rfl
        have Z_1 := Z.cells 1 _ rfl
        have Z_2 := Z.cells 2 _ rfl
        have Z_3 := Z.cells 3 _ rfl
        have Z_4 := Z.cells 4 _ rfl
        have Z_5 := Z.cells 5 _ rfl
        have Z_f0 := Z.free 0 (by simp)
        have Z_f1 := Z.free 1 (by simp)
        have Z_f2 := Z.free 2 (by simp)
        have Z_f3 := Z.free 3 (by simp)
        have Z_f4 := Z.free 4 (by simp)
        have Z_f5 := Z.free 5 (by simp)
        have Z_t := Z.there
        clear y1 y2 y3
        have m0 : 0 ≤ x.f3 * x.f4 := Int.mul_nonneg (by omega) (by omega)
        have m1 : x.f3 * x.f4 ≤ 20 * 20 := Int.mul_le_mul a6 a8 (by omega) (by omega)
        have m2 : 0 ≤ y.f3 * y.f4 := Int.mul_nonneg (by omega) (by omega)
        have m3 : y.f3 * y.f4 ≤ 20 * 20 := Int.mul_le_mul b6 b8 (by omega) (by omega)
        have m4 : 0 ≤ W * H := Int.mul_nonneg (by omega) (by omega)
        have m5 : W * H ≤ 50 * 50 := Int.mul_le_mul hw2 hh2 (by omega) (by omega)
        have y1 : IntKind.i64.wrap (x.f3 * x.f4) = x.f3 * x.f4 := IntWalk.i64_in _ (by omega)
        have y2 : IntKind.i64.wrap (y.f3 * y.f4) = y.f3 * y.f4 := IntWalk.i64_in _ (by omega)
        have y3 : IntKind.i64.wrap (W * H) = W * H := IntWalk.i64_in _ (by omega)
        have y4 : IntKind.i64.wrap (x.f3 * x.f4 + y.f3 * y.f4) = x.f3 * x.f4 + y.f3 * y.f4 := IntWalk.i64_in _ (by omega)
        clear m0 m1 m2 m3 m4 m5 a1 a2 a3 a4 a5 a6 a7 a8 b1 b2 b3 b4 b5 b6 b7 b8
        have HP := Lib.hid (show around a x y = ⟨a, least x.f1 y.f1, least x.f2 y.f2, W, H, least x.f5 y.f5⟩ by rw [HW.out, HH.out]; rfl)
        have HF := Lib.hid (show fills x y = decide (W * H = x.f3 * x.f4 + y.f3 * y.f4) by rw [HW.out, HH.out]; rfl)
        by_cases hfl : W * H = x.f3 * x.f4 + y.f3 * y.f4
        · have hq2 : (W * H != x.f3 * x.f4 + y.f3 * y.f4) = false := by simp [hfl]
          have HIN1 := Lib.hid (show joinOk l a b = good (joinRow l i k (around a x y)) by rw [HIN.out.1, HF.out, decide_eq_true hfl]; rfl)
          clear hfl
          generalize hpd : (⟨a, least x.f1 y.f1, least x.f2 y.f2, W, H, least x.f5 y.f5⟩ : R) = p at HP
          have Zp : Box (v1.heap.size) [.int .i64 p.f0, .int .i64 p.f1, .int .i64 p.f2, .int .i64 p.f3, .int .i64 p.f4, .int .i64 p.f5] w W6 := by rw [← hpd]; exact Z
          have HP2 := Lib.hid hpd; clear hpd
          have HIN2 := Lib.hid (show joinOk l a b = good (joinRow l i k p) by rw [HIN1.out, HP.out])
          have HYES := Lib.hid (show joinOk l a b = true → joinL l a b = joinRow l i k p from fun h => by rw [HIN.out.2 h, HP.out])
          clear HIN HIN1 HP hox hoy hx hy HF
          have hzq : w.heap.size ≤ v1.heap.size := Zp.base
          have O : (W6.alloc (.cells #[] 54)).ownsRow (v1.heap.size + 1) 54 6 (.slice (some ⟨W6.heap.size, 0, none⟩) 0 0) 0 (flat []) := by
            have := World.ownsRow_lit W6 #[] 0 (e := 54) (size := 6) (base := v1.heap.size + 1) (by have := Zp.there; omega) (by unfold maxLen; omega) rfl
            simpa [flat] using this
          have Z2 := Zp.alloc (.cells #[] 54)
          clear Zp
          go_upto_region 10 with fail
          generalize hgz : v1.heap.size = gz at *
          clear X_0 X_1 X_2 X_3 X_4 X_5 X_f0 X_f1 X_f2 X_f3 X_f4 X_f5 X_t
          clear Y_0 Y_1 Y_2 Y_3 Y_4 Y_5 Y_f0 Y_f1 Y_f2 Y_f3 Y_f4 Y_f5 Y_t
          clear Z_0 Z_1 Z_2 Z_3 Z_4 Z_5 Z_f0 Z_f1 Z_f2 Z_f3 Z_f4 Z_f5 Z_t
          clear X Y Z
          go_wp2
          go_loopw [13, 14] (fun out jj wr => ∃ (m : Nat) (L : List R) (A : Option Addr) (c : Nat), m ≤ l.length ∧ jj = .int .i64 m ∧ out = .slice A L.length c ∧ Hid (((l.set i p).take m).eraseIdx k = L) ∧ L.length ≤ m ∧ wr.ownsRow (gz + 1) 54 6 (.slice A L.length c) L.length (flat L) ∧ Box gz [.int .i64 p.f0, .int .i64 p.f1, .int .i64 p.f2, .int .i64 p.f3, .int .i64 p.f4, .int .i64 p.f5] w wr) (fun _ jj _ => l.length - (intOf jj).toNat)
          case atStart => exact ⟨0, [], _, _, Nat.zero_le _, rfl, rfl, Lib.hid (by simp), Nat.zero_le _, O, Z2⟩
          case round =>
            clear O Z2
            obtain ⟨m, L, A, c, hm, rfl, rfl, HL0, hLm, O, Z⟩ := hrel
            by_cases hlt : m < l.length
            · have HL := Lib.hid hlt
              have hm1 : L.length + 1 ≤ maxLen := by unfold maxLen; omega
              have hm2 : (L.length + 1) * 48 ≤ 140737488355328 := by omega
              have hzt := Z.there
              by_cases hmi : m = i
              · have HN1 := Lib.hid (show ((l.set i p).take (m + 1)).eraseIdx k = L ++ [p] by rw [er_keep (by rw [List.length_set]; exact hlt) (by omega), HL0.out]; congr 1; subst hmi; simp)
                have hq3 : ((m : Int) == (i : Int)) = true := by simp [hmi]
                have Z_0 := Z.cells 0 _ rfl
                have Z_1 := Z.cells 1 _ rfl
                have Z_2 := Z.cells 2 _ rfl
                have Z_3 := Z.cells 3 _ rfl
                have Z_4 := Z.cells 4 _ rfl
                have Z_5 := Z.cells 5 _ rfl
                have Z_f0 := Z.free 0 (by simp)
                have Z_f1 := Z.free 1 (by simp)
                have Z_f2 := Z.free 2 (by simp)
                have Z_f3 := Z.free 3 (by simp)
                have Z_f4 := Z.free 4 (by simp)
                have Z_f5 := Z.free 5 (by simp)
                have Z_t := Z.there
                go_wp2_with (at_builtin; go_must (refine wpList_append_own _ rfl _ _ 24 rfl (gz + 1) 54 i0 _ 6 48 Try.underlying24 hi0 hz0 HI1.out HI.out rfl (by decide) _ L.length _ rfl (O.alloc _) ⟨wr.heap.size, 0, none⟩ 1 1 [.int .i64 p.f0, .int .i64 p.f1, .int .i64 p.f2, .int .i64 p.f3, .int .i64 p.f4, .int .i64 p.f5] rfl rfl (new6 wr p) (one6 p) hm1 hm2 (by rw [size_alloc']; omega) ?_; intro v' w9 hown1 hgrow _))
                have hown2 : w9.ownsRow (gz + 1) 54 6 v' (L ++ [p]).length (flat (L ++ [p])) := by
                  rw [flat_snoc, List.length_append]; exact hown1
                obtain ⟨A1, c1, rfl⟩ := own_form hown2
                have Z1 := box_grown (Z.alloc (.cells #[.int .i64 p.f0, .int .i64 p.f1, .int .i64 p.f2, .int .i64 p.f3, .int .i64 p.f4, .int .i64 p.f5] 54)) hgrow (fun q hq => by have := own_ge O q hq; omega)
                clear hgrow hown1 O
                clear Z_0 Z_1 Z_2 Z_3 Z_4 Z_5 Z_f0 Z_f1 Z_f2 Z_f3 Z_f4 Z_f5 Z_t
                clear Z
                go_wp2
                go_roundw
                case rel => exact ⟨m + 1, L ++ [p], A1, c1, HL.out, by go_num, by rw [List.length_append] <;> rfl, HN1, by rw [List.length_append]; simp; omega, hown2, Z1⟩
                case measure => have := HL.out; simp [intOf]; omega
              by_cases hmk : m = k
              · have HN1 := Lib.hid (show ((l.set i p).take (m + 1)).eraseIdx k = L by rw [← hmk, er_skip (by rw [List.length_set]; exact hlt), hmk, ← hmk]; rw [hmk]; exact hmk ▸ HL0.out)
                have hq3 : ((m : Int) == (i : Int)) = false := by simp; omega
                have hq4 : ((m : Int) == (k : Int)) = true := by simp [hmk]
                go_wp2
                go_roundw
                case rel => exact ⟨m + 1, L, A, c, HL.out, by go_num, rfl, HN1, by omega, O, Z⟩
                case measure => have := HL.out; simp [intOf]; omega
              · have hq3 : ((m : Int) == (i : Int)) = false := by simp; omega
                have hq4 : ((m : Int) == (k : Int)) = false := by simp; omega
                obtain ⟨u, hu⟩ : ∃ u, l[m] = u := ⟨_, rfl⟩
                obtain ⟨u0, u1, u2, u3, u4, u5⟩ := cells6 Z.below hb HC.out hlt hu
                have HN1 := Lib.hid (show ((l.set i p).take (m + 1)).eraseIdx k = L ++ [u] by rw [er_keep (by rw [List.length_set]; exact hlt) hmk, HL0.out, List.getElem_set_ne (by omega)]; exact congrArg (fun z => L ++ [z]) hu)
                clear hu
                go_wp2_with (at_builtin; go_must (refine wpList_append_own _ rfl _ _ 24 rfl (gz + 1) 54 i0 _ 6 48 Try.underlying24 hi0 hz0 HI1.out HI.out rfl (by decide) _ L.length _ rfl (O.alloc _) ⟨wr.heap.size, 0, none⟩ 1 1 [.int .i64 u.f0, .int .i64 u.f1, .int .i64 u.f2, .int .i64 u.f3, .int .i64 u.f4, .int .i64 u.f5] rfl rfl (new6 wr u) (one6 u) hm1 hm2 (by rw [size_alloc']; omega) ?_; intro v' w9 hown1 hgrow _))
                have hown2 : w9.ownsRow (gz + 1) 54 6 v' (L ++ [u]).length (flat (L ++ [u])) := by
                  rw [flat_snoc, List.length_append]; exact hown1
                obtain ⟨A1, c1, rfl⟩ := own_form hown2
                have Z1 := box_grown (Z.alloc (.cells #[.int .i64 u.f0, .int .i64 u.f1, .int .i64 u.f2, .int .i64 u.f3, .int .i64 u.f4, .int .i64 u.f5] 54)) hgrow (fun q hq => by have := own_ge O q hq; omega)
                clear hgrow hown1 O
                skip
                clear Z
                clear u0 u1 u2 u3 u4 u5
                go_wp2
                go_roundw
                case rel => exact ⟨m + 1, L ++ [u], A1, c1, HL.out, by go_num, by rw [List.length_append] <;> rfl, HN1, by rw [List.length_append]; simp; omega, hown2, Z1⟩
                case measure => have := HL.out; simp [intOf]; omega
            · obtain rfl : m = l.length := by omega
              have e : joinRow l i k p = L := by
                have := HL0.out
                rw [List.take_of_length_le (by rw [List.length_set]; exact Nat.le_refl _)] at this
                exact this
              have HE := Lib.hid e; clear e
              go_wp2_with fail
              refine (good_spec A c L wr (Rd.of_own O) (by omega)).mono ?_
              rintro e V2 ⟨rfl, hv2⟩
              have O3 := own_base (own_keep O hv2) (base' := w.heap.size) (by omega)
              have Z3 := Z.more hv2
              clear O Z hv2
              have hok := HIN2.out
              rw [HE.out] at hok
              cases hgc : good L
              · rw [hgc] at hok
                go_wp2
                go_ret2
                exact j_mk (join_no hok) hok rfl (empty_own Z3.below) (al Z3.below)
              · rw [hgc] at hok
                have HOK := Lib.hid hok; clear hok hgc
                go_wp2
                go_ret2
                exact j_mk ((HYES.out HOK.out).trans HE.out) HOK.out rfl O3 Z3.below
        · have hq2 : (W * H != x.f3 * x.f4 + y.f3 * y.f4) = true := by simp [hfl]
          have HNO := Lib.hid (show joinOk l a b = false by rw [HIN.out.1, HF.out, decide_eq_false hfl]; rfl)
          clear hfl
          go_wp2
          go_ret2
          exact j_mk (join_no HNO.out) HNO.out rfl (empty_own Z.below) (al Z.below)
    · have HNO := Lib.hid (jok_two (l := l) (a := a) (b := b) (fun h => h1 h.2.1))
      have hneg : decide (find l b < 0) = true := decide_eq_true (by omega)
      clear h1
      go_wp2
      go_ret2
      exact j_mk (join_no HNO.out) HNO.out rfl (empty_own HB) (al HB)
  · have HNO := Lib.hid (jok_two (l := l) (a := a) (b := b) (fun h => h0 h.1))
    have hneg : decide (find l a < 0) = true := decide_eq_true (by omega)
    clear h0
    go_wp2
    go_ret2
    exact j_mk (join_no HNO.out) HNO.out rfl (empty_own HB) (al HB)
end Go.Proofs.Ytncdkfkihfhcgaa.JPond
