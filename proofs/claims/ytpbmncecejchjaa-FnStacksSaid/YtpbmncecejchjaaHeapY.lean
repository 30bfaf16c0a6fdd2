/- Heaps: HighestHeap, the program's and the model's; cmp.Compare, cmp.Or of two. -/
import Derived.Test.YtpbmncecejchjaaHeapT
import Derived.Test.YtpbmncecejchjaaHeap2
import Derived.Shelf.Abstract
import Derived.Lib.SliceRun
namespace Go.Proofs.Ytpbmncecejchjaa.HeapY
open Go.RowKit Go.Proofs.Ytpbmncecejchjaa.Mem Go.Proofs.Ytpbmncecejchjaa.Base Go.Proofs.Ytpbmncecejchjaa.Within Go.Proofs.Ytpbmncecejchjaa.SInt Go.Proofs.Ytpbmncecejchjaa.Boxes Go.Proofs.Ytpbmncecejchjaa.Keep Go.Proofs.Ytpbmncecejchjaa.Regn Go.Proofs.Ytpbmncecejchjaa.Nest Go.Proofs.Ytpbmncecejchjaa.HeapS Go.Proofs.Ytpbmncecejchjaa.HeapW Go.Proofs.Ytpbmncecejchjaa.Heap Go.Proofs.Ytpbmncecejchjaa.Heap2 Go.Proofs.Ytpbmncecejchjaa.HeapG Go.Proofs.Ytpbmncecejchjaa.HeapT
set_option linter.unusedVariables false
set_option maxRecDepth 100000
def cmpI (a b : Int) : Int := if a < b then -1 else if b < a then 1 else 0
def orI (a b : Int) : Int := if a ≠ 0 then a else b
theorem nan_any (x : Int) (w : World) : Calls Try.prog 146 #[.int .i64 x] w (BPost false w) := by
  have hx : (x != x) = false := by simp
  go_enter Try.func146, Try.ntmps146
  go_wp2
  go_ret
  exact bpost rfl
theorem cmp_any (a b : Int) (w : World) : Calls Try.prog 125 #[.int .i64 a, .int .i64 b] w fun e w' => e = .returned (.int .i64 (cmpI a b)) ∧ w = w' := by
  rcases Int.lt_trichotomy a b with h | h | h
  · have HV := Lib.hid (show cmpI a b = -1 by unfold cmpI; rw [if_pos h])
    go_enter Try.func125, Try.ntmps125
    go_wp2_with (go_at_call 146; (with_reducible refine (nan_any _ _).mono ?_); rintro e' w' ⟨rfl, rfl⟩)
    go_ret
    exact ⟨by rw [HV.out]; rfl, rfl⟩
  · subst h
    have HV := Lib.hid (show cmpI a a = 0 by unfold cmpI; rw [if_neg (by omega), if_neg (by omega)])
    go_enter Try.func125, Try.ntmps125
    go_wp2_with (go_at_call 146; (with_reducible refine (nan_any _ _).mono ?_); rintro e' w' ⟨rfl, rfl⟩)
    go_ret
    exact ⟨by rw [HV.out]; rfl, rfl⟩
  · have HV := Lib.hid (show cmpI a b = 1 by unfold cmpI; rw [if_neg (by omega), if_pos h])
    have h2 : decide (a < b) = false := decide_eq_false (by omega)
    go_enter Try.func125, Try.ntmps125
    go_wp2_with (go_at_call 146; (with_reducible refine (nan_any _ _).mono ?_); rintro e' w' ⟨rfl, rfl⟩)
    go_ret
    exact ⟨by rw [HV.out]; rfl, rfl⟩
theorem or_any (A : Option Addr) (c : Nat) (a b : Int) (w : World) (hr : Rd w w.heap.size A (iv [a, b])) :
    Calls Try.prog 133 #[.slice A 2 c] w (RPost (.int .i64 (orI a b)) w) := by
  obtain ⟨g, o, rfl, hb, hc⟩ := hr.at (k := 0) (by simp [iv])
  have h0 := hc 0 _ rfl
  have h1 := hc 1 _ rfl
  have h0' : w.cell? ⟨g, o, none⟩ = some (.int .i64 a) := h0
  clear hc h0 hr
  go_enter Try.func133, Try.ntmps133
  go_wp2
  go_loopw [8] (fun i wr => ∃ k : Nat, k ≤ 2 ∧ i = .int .i64 k ∧ Hid ((1 ≤ k → a = 0) ∧ (2 ≤ k → b = 0)) ∧ Below w.heap.size w wr) (fun i _ => 2 - (intOf i).toNat)
  case atStart => exact ⟨0, Nat.zero_le _, rfl, Lib.hid ⟨fun h => by omega, fun h => by omega⟩, Below.refl _ _⟩
  case round =>
    obtain ⟨k, hk, rfl, HZ, HB⟩ := hrel
    have k0 := ((bcell HB).1 _ _ hb).trans h0'
    have k1 := ((bcell HB).1 _ _ hb).trans h1
    clear h0' h1
    rcases (show k = 0 ∨ k = 1 ∨ k = 2 by omega) with h | h | h
    · subst h
      cases hz : (a != 0)
      · have HN := Lib.hid (show (1 ≤ 1 → a = 0) ∧ (2 ≤ 1 → b = 0) from ⟨fun _ => by simpa using hz, fun h => by omega⟩)
        go_wp2
        go_roundw
        case rel => exact ⟨1, by omega, by go_num, HN, HB⟩
        case measure => simp [intOf]
      · have HV := Lib.hid (show orI a b = a by unfold orI; rw [if_pos (by simpa using hz)])
        go_wp2
        go_ret
        exact rpost (by rw [HV.out]; rfl) HB
    · subst h
      have ha := HZ.out.1 (by omega)
      cases hz : (b != 0)
      · have HN := Lib.hid (show (1 ≤ 2 → a = 0) ∧ (2 ≤ 2 → b = 0) from ⟨fun _ => ha, fun _ => by simpa using hz⟩)
        clear ha
        go_wp2
        go_roundw
        case rel => exact ⟨2, by omega, by go_num, HN, HB⟩
        case measure => simp [intOf]
      · have HV := Lib.hid (show orI a b = b by unfold orI; rw [if_neg (by simpa using ha)])
        clear ha
        go_wp2
        go_ret
        exact rpost (by rw [HV.out]; rfl) HB
    · subst h
      have HV := Lib.hid (show orI a b = 0 by unfold orI; rw [if_neg (by simpa using HZ.out.1 (by omega))]; exact HZ.out.2 (by omega))
      go_wp2
      go_ret
      exact rpost (by rw [HV.out]; rfl) HB
/-- x is higher than y. -/
def better (x y : H) : Bool := decide (y.ls.length < x.ls.length) || (decide (x.ls.length = y.ls.length) && decide (y.ls.sum < x.ls.sum))
def cmpH (x y : H) : Int := orI (cmpI x.ls.length y.ls.length) (cmpI x.ls.sum y.ls.sum)
theorem cmpH_pos (x y : H) : decide (0 < cmpH x y) = better x y := by
  unfold cmpH better orI cmpI
  rcases Nat.lt_trichotomy x.ls.length y.ls.length with h | h | h
  · rw [if_pos (show (x.ls.length : Int) < y.ls.length by omega)]
    simp; omega
  · rw [if_neg (show ¬ (x.ls.length : Int) < y.ls.length by omega), if_neg (show ¬ (y.ls.length : Int) < x.ls.length by omega)]
    simp only [ne_eq, not_true, if_false, h, Nat.lt_irrefl, decide_false, Bool.false_or, decide_true, Bool.true_and]
    rcases Int.lt_trichotomy x.ls.sum y.ls.sum with h2 | h2 | h2
    · rw [if_pos h2]; simp; omega
    · rw [if_neg (by omega), if_neg (by omega)]; simp; omega
    · rw [if_neg (by omega), if_pos h2]; simp; omega
  · rw [if_neg (show ¬ (x.ls.length : Int) < y.ls.length by omega), if_pos (show (y.ls.length : Int) < x.ls.length by omega)]
    simp; omega
set_option maxHeartbeats 800000 in
theorem hi_cmp (x y : R) (w : World) (hx : Rd w w.heap.size x.f2.A (iv x.f2.ls)) (hy : Rd w w.heap.size y.f2.A (iv y.f2.ls)) (ox : okLs x.f2.ls = true) (oy : okLs y.f2.ls = true) :
    Calls Try.prog 132 #[.agg #[.int .i64 x.f0, .int .i64 x.f1, .slice x.f2.A x.f2.ls.length x.f2.cap, .bool x.f3], .agg #[.int .i64 y.f0, .int .i64 y.f1, .slice y.f2.A y.f2.ls.length y.f2.cap, .bool y.f3]] w (RPost (.int .i64 (cmpH x.pure y.pure)) w) := by
  have HX := Lib.hid hx; clear hx
  have HY := Lib.hid hy; clear hy
  have nx := okLs_len ox
  have ny := okLs_len oy
  have BX := Lib.hid (show ∀ z ∈ x.f2.ls, 0 ≤ z ∧ z ≤ 10000 from fun z hz => by have := okLs_mem ox z hz; omega)
  have BY := Lib.hid (show ∀ z ∈ y.f2.ls, 0 ≤ z ∧ z ≤ 10000 from fun z hz => by have := okLs_mem oy z hz; omega)
  clear ox oy
  have HV := Lib.hid (show cmpH x.pure y.pure = orI (cmpI x.f2.ls.length y.f2.ls.length) (cmpI x.f2.ls.sum y.f2.ls.sum) from rfl)
  obtain ⟨c1, hc1⟩ : ∃ c, cmpI x.f2.ls.length y.f2.ls.length = c := ⟨_, rfl⟩
  obtain ⟨c2, hc2⟩ : ∃ c, cmpI x.f2.ls.sum y.f2.ls.sum = c := ⟨_, rfl⟩
  have HC1 := Lib.hid hc1; have HC2 := Lib.hid hc2; clear hc1 hc2
  go_enter Try.func132, Try.ntmps132
  go_wp2_with fail
  have X := (Box.new (Below.refl _ w) [.int .i64 x.f0, .int .i64 x.f1, .slice x.f2.A x.f2.ls.length x.f2.cap, .bool x.f3] 91 (g := w.heap.size) rfl).alloc (.cells #[.int .i64 y.f0, .int .i64 y.f1, .slice y.f2.A y.f2.ls.length y.f2.cap, .bool y.f3] 91)
  have Y := Box.new (al (Below.refl _ w) (o := (.cells #[.int .i64 x.f0, .int .i64 x.f1, .slice x.f2.A x.f2.ls.length x.f2.cap, .bool x.f3] 91))) [.int .i64 y.f0, .int .i64 y.f1, .slice y.f2.A y.f2.ls.length y.f2.cap, .bool y.f3] 91 (g := w.heap.size + 1) (by simp only [size_alloc'])
  generalize ((w.alloc (.cells #[.int .i64 x.f0, .int .i64 x.f1, .slice x.f2.A x.f2.ls.length x.f2.cap, .bool x.f3] 91)).alloc (.cells #[.int .i64 y.f0, .int .i64 y.f1, .slice y.f2.A y.f2.ls.length y.f2.cap, .bool y.f3] 91)) = W1 at X Y ⊢
  have X_0 := X.cells 0 _ rfl
  have X_1 := X.cells 1 _ rfl
  have X_2 := X.cells 2 _ rfl
  have X_3 := X.cells 3 _ rfl
  have X_f0 := X.free 0 (by simp)
  have X_f1 := X.free 1 (by simp)
  have X_f2 := X.free 2 (by simp)
  have X_f3 := X.free 3 (by simp)
  have X_t := X.there
  have Y_0 := Y.cells 0 _ rfl
  have Y_1 := Y.cells 1 _ rfl
  have Y_2 := Y.cells 2 _ rfl
  have Y_3 := Y.cells 3 _ rfl
  have Y_f0 := Y.free 0 (by simp)
  have Y_f1 := Y.free 1 (by simp)
  have Y_f2 := Y.free 2 (by simp)
  have Y_f3 := Y.free 3 (by simp)
  have Y_t := Y.there
  have X_0 := X.cells 0 _ rfl
  have X_1 := X.cells 1 _ rfl
  have X_2 := X.cells 2 _ rfl
  have X_3 := X.cells 3 _ rfl
  have X_f0 := X.free 0 (by simp)
  have X_f1 := X.free 1 (by simp)
  have X_f2 := X.free 2 (by simp)
  have X_f3 := X.free 3 (by simp)
  have X_t := X.there
  have Y_0 := Y.cells 0 _ rfl
  have Y_1 := Y.cells 1 _ rfl
  have Y_2 := Y.cells 2 _ rfl
  have Y_3 := Y.cells 3 _ rfl
  have Y_f0 := Y.free 0 (by simp)
  have Y_f1 := Y.free 1 (by simp)
  have Y_f2 := Y.free 2 (by simp)
  have Y_f3 := Y.free 3 (by simp)
  have Y_t := Y.there
  refine wp_region_last 14 (fun w' => Box (w.heap.size) [.int .i64 x.f0, .int .i64 x.f1, .slice x.f2.A x.f2.ls.length x.f2.cap, .bool x.f3] w w' ∧ Box (w.heap.size + 1) [.int .i64 y.f0, .int .i64 y.f1, .slice y.f2.A y.f2.ls.length y.f2.cap, .bool y.f3] w w') (by kernel_rfl) (by kernel_rfl) (by kernel_rfl) ⟨X.drew, Y.drew⟩ ?_
  clear X_0 X_1 X_2 X_3 X_f0 X_f1 X_f2 X_f3 X_t
  clear Y_0 Y_1 Y_2 Y_3 Y_f0 Y_f1 Y_f2 Y_f3 Y_t
  simp only [List.take_succ_cons, List.take_zero]
  iterate 14 (
    apply SeqH.one
    · intro uw K hS hK
      obtain ⟨qX, qY⟩ := hS
      have qX_0 := qX.cells 0 _ rfl
      have qX_1 := qX.cells 1 _ rfl
      have qX_2 := qX.cells 2 _ rfl
      have qX_3 := qX.cells 3 _ rfl
      have qY_0 := qY.cells 0 _ rfl
      have qY_1 := qY.cells 1 _ rfl
      have qY_2 := qY.cells 2 _ rfl
      have qY_3 := qY.cells 3 _ rfl
      first
        | (go_simp; exact hK.out _ ⟨qX, qY⟩)
        | (go_simp; go_at_call 125; (with_reducible refine (cmp_any x.f2.ls.length y.f2.ls.length _).mono ?_); rintro e _ ⟨rfl, rfl⟩; rw [HC1.out]; go_wp2_with fail; exact hK.out _ ⟨qX, qY⟩)
        | (go_simp; go_at_call 125; (with_reducible refine (cmp_any x.f2.ls.sum y.f2.ls.sum _).mono ?_); rintro e _ ⟨rfl, rfl⟩; rw [HC2.out]; go_wp2_with fail; exact hK.out _ ⟨qX, qY⟩)
        | (go_simp; go_at_call 122; (with_reducible refine (sum_impl x.f2.A x.f2.cap x.f2.ls _ (rd_keep HX.out qX.below) (by omega) BX.out).mono ?_); rintro e uw1 ⟨rfl, hv⟩; go_wp2_with fail; exact hK.out _ ⟨qX.more hv, qY.more hv⟩)
        | (go_simp; go_at_call 122; (with_reducible refine (sum_impl y.f2.A y.f2.cap y.f2.ls _ (rd_keep HY.out qX.below) (by omega) BY.out).mono ?_); rintro e uw1 ⟨rfl, hv⟩; go_wp2_with fail; exact hK.out _ ⟨qX.more hv, qY.more hv⟩)
    try simp only [Act.put, List.setIfInBounds_toArray, List.set_cons_zero, List.set_cons_succ])
  refine SeqH.rest rfl ?_
  intro v2 hS
  clear X Y
  obtain ⟨X, Y⟩ := hS
  simp only [List.drop_succ_cons, List.drop_zero]
  have X_0 := X.cells 0 _ rfl
  have X_1 := X.cells 1 _ rfl
  have X_2 := X.cells 2 _ rfl
  have X_3 := X.cells 3 _ rfl
  have X_f0 := X.free 0 (by simp)
  have X_f1 := X.free 1 (by simp)
  have X_f2 := X.free 2 (by simp)
  have X_f3 := X.free 3 (by simp)
  have X_t := X.there
  have Y_0 := Y.cells 0 _ rfl
  have Y_1 := Y.cells 1 _ rfl
  have Y_2 := Y.cells 2 _ rfl
  have Y_3 := Y.cells 3 _ rfl
  have Y_f0 := Y.free 0 (by simp)
  have Y_f1 := Y.free 1 (by simp)
  have Y_f2 := Y.free 2 (by simp)
  have Y_f3 := Y.free 3 (by simp)
  have Y_t := Y.there
  go_wp2_with fail
  have hba := al (Below.refl (v2).heap.size v2) (o := .cells #[.int .i64 c1, .int .i64 c2] 3)
  have hrd := (Box.new (Below.refl _ v2) [.int .i64 c1, .int .i64 c2] 3 (g := (v2).heap.size) rfl).rd
  refine (or_any _ _ c1 c2 _ hrd).mono ?_
  rintro e w9 ⟨rfl, hv9⟩
  have HB := be X.below (be hba hv9)
  clear hba hrd hv9 X Y
  go_wp2
  go_ret
  exact rpost (by rw [HV.out, HC1.out, HC2.out]; rfl) HB
/-- the index of the highest of the first n heaps. -/
def hiN (l : List H) : Nat → Nat
  | 0 => 0
  | n + 1 => if n = 0 then 0 else if better (l.getD n hz) (l.getD (hiN l n) hz) = true then n else hiN l n
theorem hiN_one (l : List H) : hiN l 1 = 0 := by simp [hiN]
theorem hiN_lt (l : List H) : ∀ n, 1 ≤ n → hiN l n < n := by
  intro n
  induction n with
  | zero => intro h; omega
  | succ n ih =>
    intro _
    rw [hiN]
    split
    · omega
    · split
      · omega
      · have := ih (by omega); omega
theorem hiN_yes {l : List H} {n : Nat} {x y : H} (h1 : 1 ≤ n) (hn : n < l.length) (hx : l[n] = x) (hb : hiN l n < l.length) (hy : l[hiN l n] = y) (h : better x y = true) : hiN l (n + 1) = n := by
  rw [hiN, if_neg (by omega), h_at hn, h_at hb, hx, hy, if_pos h]
theorem hiN_no {l : List H} {n : Nat} {x y : H} (h1 : 1 ≤ n) (hn : n < l.length) (hx : l[n] = x) (hb : hiN l n < l.length) (hy : l[hiN l n] = y) (h : better x y = false) : hiN l (n + 1) = hiN l n := by
  rw [hiN, if_neg (by omega), h_at hn, h_at hb, hx, hy, h]; rfl
theorem hiN_yes' {l : List H} {n j : Nat} {x y : H} (h1 : 1 ≤ n) (hn : n < l.length) (hx : l[n] = x) (hj : hiN l n = j) (hb : j < l.length) (hy : l[j] = y) (h : better x y = true) : hiN l (n + 1) = n := by
  subst hj; exact hiN_yes h1 hn hx hb hy h
theorem hiN_no' {l : List H} {n j : Nat} {x y : H} (h1 : 1 ≤ n) (hn : n < l.length) (hx : l[n] = x) (hj : hiN l n = j) (hb : j < l.length) (hy : l[j] = y) (h : better x y = false) : hiN l (n + 1) = j := by
  subst hj; exact hiN_no h1 hn hx hb hy h
def hiV (l : List H) : Value := if good l = true ∧ 0 < l.length then .tuple #[.int .i64 (l.getD (hiN l l.length) hz).id, .bool true] else .tuple #[.int .i64 0, .bool false]
theorem hiV_bad {l : List H} (h : good l = false) : hiV l = .tuple #[.int .i64 0, .bool false] := by unfold hiV; rw [h]; simp
theorem hiV_none {l : List H} (h : l.length = 0) : hiV l = .tuple #[.int .i64 0, .bool false] := by unfold hiV; rw [if_neg (by omega)]
theorem hiV_yes {l : List H} {x : H} (hg : good l = true) (h : 0 < l.length) (hb : hiN l l.length < l.length) (hx : l[hiN l l.length] = x) : hiV l = .tuple #[.int .i64 x.id, .bool true] := by unfold hiV; rw [if_pos ⟨hg, h⟩, h_at hb, hx]
theorem hiV_form (l : List H) : ∃ x q, hiV l = .tuple #[.int .i64 x, .bool q] := by unfold hiV; split <;> exact ⟨_, _, rfl⟩
/-- returned: this heap. -/
def HvPost (x : R) (w : World) (e : Ending) (w' : World) : Prop := e = .returned (.agg #[.int .i64 x.f0, .int .i64 x.f1, .slice x.f2.A x.f2.ls.length x.f2.cap, .bool x.f3]) ∧ Below w.heap.size w w'
set_option maxHeartbeats 1000000 in
theorem max_any (P : Option Addr) (cap : Nat) (l : List R) (w : World) (hr : Hs w w.heap.size P l) (hg : good (pl l) = true) (h0 : 0 < l.length) :
    Calls Try.prog 131 #[.slice P l.length cap, .func (.func 132) #[] #[]] w (fun e w' => ∃ (h : hiN (pl l) l.length < l.length), HvPost (l[hiN (pl l) l.length]) w e w') := by
  have hn := hr.len
  have HR := Lib.hid hr; clear hr
  have HG := Lib.hid hg; clear hg
  have HPOS := Lib.hid h0
  obtain ⟨x0, hx0⟩ : ∃ x, l[0] = x := ⟨_, rfl⟩
  obtain ⟨b, o, rfl, hb, a0, a1, a2, a3⟩ := hs_at HR.out (Below.refl _ _) h0 hx0
  rw [Nat.zero_mul, Nat.add_zero] at a0 a1 a2 a3
  have HX0 := Lib.hid hx0; clear hx0
  have h1' : decide ((l.length : Int) < 1) = false := decide_eq_false (by omega)
  go_enter Try.func131, Try.ntmps131
  go_upto_region 5 with fail
  have Q := (Box.new (Below.refl _ w) [.int .i64 0, .int .i64 0, .slice none 0 0, .bool false] 91 (g := w.heap.size) rfl).alloc (.cells #[.int .i64 x0.f0, .int .i64 x0.f1, .slice x0.f2.A x0.f2.ls.length x0.f2.cap, .bool x0.f3] 91)
  have M := Box.new (al (Below.refl _ w) (o := (.cells #[.int .i64 0, .int .i64 0, .slice none 0 0, .bool false] 91))) [.int .i64 x0.f0, .int .i64 x0.f1, .slice x0.f2.A x0.f2.ls.length x0.f2.cap, .bool x0.f3] 91 (g := w.heap.size + 1) (by simp only [size_alloc'])
  generalize ((w.alloc (.cells #[.int .i64 0, .int .i64 0, .slice none 0 0, .bool false] 91)).alloc (.cells #[.int .i64 x0.f0, .int .i64 x0.f1, .slice x0.f2.A x0.f2.ls.length x0.f2.cap, .bool x0.f3] 91)) = W1 at Q M ⊢
  have Q_0 := Q.cells 0 _ rfl
  have Q_1 := Q.cells 1 _ rfl
  have Q_2 := Q.cells 2 _ rfl
  have Q_3 := Q.cells 3 _ rfl
  have Q_f0 := Q.free 0 (by simp)
  have Q_f1 := Q.free 1 (by simp)
  have Q_f2 := Q.free 2 (by simp)
  have Q_f3 := Q.free 3 (by simp)
  have Q_t := Q.there
  have M_0 := M.cells 0 _ rfl
  have M_1 := M.cells 1 _ rfl
  have M_2 := M.cells 2 _ rfl
  have M_3 := M.cells 3 _ rfl
  have M_f0 := M.free 0 (by simp)
  have M_f1 := M.free 1 (by simp)
  have M_f2 := M.free 2 (by simp)
  have M_f3 := M.free 3 (by simp)
  have M_t := M.there
  clear Q_0 Q_1 Q_2 Q_3 Q_f0 Q_f1 Q_f2 Q_f3 Q_t
  clear M_0 M_1 M_2 M_3 M_f0 M_f1 M_f2 M_f3 M_t
  clear a0 a1 a2 a3
  go_loopw [6] (fun i wr => ∃ (k : Nat) (j : Nat) (y : R), 1 ≤ k ∧ k ≤ l.length ∧ i = .int .i64 k ∧ Hid (hiN (pl l) k = j) ∧ j < l.length ∧ Hid (∀ h : j < l.length, l[j] = y) ∧ Box w.heap.size [.int .i64 0, .int .i64 0, .slice none 0 0, .bool false] w wr ∧
    Box (w.heap.size + 1) [.int .i64 y.f0, .int .i64 y.f1, .slice y.f2.A y.f2.ls.length y.f2.cap, .bool y.f3] w wr) (fun i _ => l.length - (intOf i).toNat)
  case atStart => exact ⟨1, 0, x0, Nat.le_refl _, h0, rfl, Lib.hid (hiN_one _), h0, Lib.hid (fun _ => HX0.out), Q, M⟩
  case round =>
    clear Q M
    obtain ⟨k, j, y, hk1, hk, rfl, HJ, hjl, HY, Q, M⟩ := hrel
    have hyy := HY.out hjl
    have Q_0 := Q.cells 0 _ rfl
    have Q_1 := Q.cells 1 _ rfl
    have Q_2 := Q.cells 2 _ rfl
    have Q_3 := Q.cells 3 _ rfl
    have Q_f0 := Q.free 0 (by simp)
    have Q_f1 := Q.free 1 (by simp)
    have Q_f2 := Q.free 2 (by simp)
    have Q_f3 := Q.free 3 (by simp)
    have Q_t := Q.there
    have M_0 := M.cells 0 _ rfl
    have M_1 := M.cells 1 _ rfl
    have M_2 := M.cells 2 _ rfl
    have M_3 := M.cells 3 _ rfl
    have M_f0 := M.free 0 (by simp)
    have M_f1 := M.free 1 (by simp)
    have M_f2 := M.free 2 (by simp)
    have M_f3 := M.free 3 (by simp)
    have M_t := M.there
    by_cases hlt : k < l.length
    · obtain ⟨x, hx⟩ : ∃ x, l[k] = x := ⟨_, rfl⟩
      obtain ⟨b', o', hA, hb', c0, c1, c2, c3⟩ := hs_at HR.out (Below.refl _ _) hlt hx
      obtain ⟨rfl, rfl⟩ : b = b' ∧ o = o' := by injection hA with hA; injection hA with e1 e2 _; exact ⟨e1, e2⟩
      have hrx := hs_row HR.out hlt hx
      have hry := hs_row HR.out hjl hyy
      have HRX := Lib.hid hrx.1; have HRY := Lib.hid hry.1
      have HOX := Lib.hid (show okLs x.f2.ls = true from (okH_true (row_bd HG.out hlt hx).2.2.2.2).2.2.2.2)
      have HOY := Lib.hid (show okLs y.f2.ls = true from (okH_true (row_bd HG.out hjl hyy).2.2.2.2).2.2.2.2)
      have HPX := Lib.hid (pl_x hlt hx)
      have HPY := Lib.hid (pl_x hjl hyy)
      have HX := Lib.hid hx; have HLT := Lib.hid hlt; have HJL := Lib.hid hjl
      clear hrx hry hx hyy hA hb'
      have HPOS2 := Lib.hid (cmpH_pos x.pure y.pure)
      have c0_c := ((bcell Q.below).1 _ _ hb).trans c0
      have c1_c := ((bcell Q.below).1 _ _ hb).trans c1
      have c2_c := ((bcell Q.below).1 _ _ hb).trans c2
      have c3_c := ((bcell Q.below).1 _ _ hb).trans c3
      go_wp2_with fail
      refine wp_region_last 6 (fun w' => Box (w.heap.size) [.int .i64 0, .int .i64 0, .slice none 0 0, .bool false] w w' ∧ Box (w.heap.size + 1) [.int .i64 y.f0, .int .i64 y.f1, .slice y.f2.A y.f2.ls.length y.f2.cap, .bool y.f3] w w') (by kernel_rfl) (by kernel_rfl) (by kernel_rfl) ⟨Q.drew, M.drew⟩ ?_
      clear Q_0 Q_1 Q_2 Q_3 Q_f0 Q_f1 Q_f2 Q_f3 Q_t
      clear M_0 M_1 M_2 M_3 M_f0 M_f1 M_f2 M_f3 M_t
      clear c0_c
      clear c1_c
      clear c2_c
      clear c3_c
      simp only [List.take_succ_cons, List.take_zero]
      iterate 6 (
        apply SeqH.one
        · intro uw K hS hK
          obtain ⟨qQ, qM⟩ := hS
          have qM_0 := qM.cells 0 _ rfl
          have qM_1 := qM.cells 1 _ rfl
          have qM_2 := qM.cells 2 _ rfl
          have qM_3 := qM.cells 3 _ rfl
          have qc0_c := ((bcell qQ.below).1 _ _ hb).trans c0
          have qc1_c := ((bcell qQ.below).1 _ _ hb).trans c1
          have qc2_c := ((bcell qQ.below).1 _ _ hb).trans c2
          have qc3_c := ((bcell qQ.below).1 _ _ hb).trans c3
          first
            | (go_simp; exact hK.out _ ⟨qQ, qM⟩)
        try simp only [Act.put, List.setIfInBounds_toArray, List.set_cons_zero, List.set_cons_succ])
      refine SeqH.rest rfl ?_
      intro v2 hS
      clear Q M
      obtain ⟨Q, M⟩ := hS
      simp only [List.drop_succ_cons, List.drop_zero]
      have Q_0 := Q.cells 0 _ rfl
      have Q_1 := Q.cells 1 _ rfl
      have Q_2 := Q.cells 2 _ rfl
      have Q_3 := Q.cells 3 _ rfl
      have Q_f0 := Q.free 0 (by simp)
      have Q_f1 := Q.free 1 (by simp)
      have Q_f2 := Q.free 2 (by simp)
      have Q_f3 := Q.free 3 (by simp)
      have Q_t := Q.there
      have M_0 := M.cells 0 _ rfl
      have M_1 := M.cells 1 _ rfl
      have M_2 := M.cells 2 _ rfl
      have M_3 := M.cells 3 _ rfl
      have M_f0 := M.free 0 (by simp)
      have M_f1 := M.free 1 (by simp)
      have M_f2 := M.free 2 (by simp)
      have M_f3 := M.free 3 (by simp)
      have M_t := M.there
      have c0_c := ((bcell Q.below).1 _ _ hb).trans c0
      have c1_c := ((bcell Q.below).1 _ _ hb).trans c1
      have c2_c := ((bcell Q.below).1 _ _ hb).trans c2
      have c3_c := ((bcell Q.below).1 _ _ hb).trans c3
      go_wp2_with fail
      refine (hi_cmp x y _ (rd_keep HRX.out M.below) (rd_keep HRY.out M.below) HOX.out HOY.out).mono ?_
      rintro e v3 ⟨rfl, hv3⟩
      clear Q_0 Q_1 Q_2 Q_3 Q_f0 Q_f1 Q_f2 Q_f3 Q_t
      clear M_0 M_1 M_2 M_3 M_f0 M_f1 M_f2 M_f3 M_t
      clear c0_c
      clear c1_c
      clear c2_c
      clear c3_c
      replace Q := Q.more hv3
      replace M := M.more hv3
      have zhv3 := hv3.size
      clear hv3
      have Q_0 := Q.cells 0 _ rfl
      have Q_1 := Q.cells 1 _ rfl
      have Q_2 := Q.cells 2 _ rfl
      have Q_3 := Q.cells 3 _ rfl
      have Q_f0 := Q.free 0 (by simp)
      have Q_f1 := Q.free 1 (by simp)
      have Q_f2 := Q.free 2 (by simp)
      have Q_f3 := Q.free 3 (by simp)
      have Q_t := Q.there
      have M_0 := M.cells 0 _ rfl
      have M_1 := M.cells 1 _ rfl
      have M_2 := M.cells 2 _ rfl
      have M_3 := M.cells 3 _ rfl
      have M_f0 := M.free 0 (by simp)
      have M_f1 := M.free 1 (by simp)
      have M_f2 := M.free 2 (by simp)
      have M_f3 := M.free 3 (by simp)
      have M_t := M.there
      have c0_c := ((bcell Q.below).1 _ _ hb).trans c0
      have c1_c := ((bcell Q.below).1 _ _ hb).trans c1
      have c2_c := ((bcell Q.below).1 _ _ hb).trans c2
      have c3_c := ((bcell Q.below).1 _ _ hb).trans c3
      obtain ⟨cv, hcv⟩ : ∃ c, cmpH x.pure y.pure = c := ⟨_, rfl⟩
      rw [hcv] at HPOS2 ⊢
      clear hcv
      cases hbt : better x.pure y.pure
      · have hd : decide (0 < cv) = false := HPOS2.out.trans hbt
        have HN := Lib.hid (hiN_no' hk1 (pl_lt HLT.out) HPX.out HJ.out (pl_lt HJL.out) HPY.out hbt)
        clear hbt
        go_wp2
        go_roundw
        case rel => exact ⟨k + 1, j, y, by omega, HLT.out, by go_num, HN, HJL.out, HY, Q, M⟩
        case measure => have := HLT.out; simp [intOf]; omega
      · have hd : decide (0 < cv) = true := HPOS2.out.trans hbt
        have HN := Lib.hid (hiN_yes' hk1 (pl_lt HLT.out) HPX.out HJ.out (pl_lt HJL.out) HPY.out hbt)
        clear hbt
        go_wp2
        go_roundw
        case rel =>
          have M' := (((M.set 0 (.int .i64 x.f0)).set 1 (.int .i64 x.f1)).set 2 (.slice x.f2.A x.f2.ls.length x.f2.cap)).set 3 (.bool x.f3)
          simp only [List.set_cons_succ, List.set_cons_zero] at M'
          exact ⟨k + 1, k, x, by omega, HLT.out, by go_num, HN, HLT.out, Lib.hid (fun _ => HX.out), (((Q.far M.base (by omega) _ _).far M.base (by omega) _ _).far M.base (by omega) _ _).far M.base (by omega) _ _, M'⟩
        case measure => have := HLT.out; simp [intOf]; omega
    · have hkk : k = l.length := by omega
      subst hkk
      have HJ2 := Lib.hid HJ.out
      have HYY := Lib.hid hyy
      have T := four_set Q (.int .i64 y.f0) (.int .i64 y.f1) (.slice y.f2.A y.f2.ls.length y.f2.cap) (.bool y.f3)
      have hq := Q.base
      have HB := Q.below
      clear hyy
      go_wp2
      refine bodyPost_ret (v := .agg #[.int .i64 y.f0, .int .i64 y.f1, .slice y.f2.A y.f2.ls.length y.f2.cap, .bool y.f3]) (by simp [results, Try.results131, go_sem, T.1, T.2.1, T.2.2.1, T.2.2.2]) rfl ?_
      have hjj := HJ2.out
      subst hjj
      refine ⟨hjl, ?_, (((HB.setCell hq _).setCell hq _).setCell hq _).setCell hq _⟩
      rw [HYY.out]
set_option maxHeartbeats 400000 in
theorem hi_impl (P : Option Addr) (cap : Nat) (l : List R) (w : World) (hr : Hs w w.heap.size P l) :
    Calls Try.prog 69 #[.slice P l.length cap] w (RPost (hiV (pl l)) w) := by
  have hn := hr.len
  have HR := Lib.hid hr; clear hr
  go_enter Try.func69, Try.ntmps69
  go_wp2_with fail
  refine (are_impl P cap l w HR.out).mono ?_
  rintro e w1 ⟨rfl, HB⟩
  cases hg : good (pl l)
  · have HV := Lib.hid (hiV_bad hg)
    go_wp2
    go_ret2
    exact rpost (by rw [HV.out] <;> rfl) HB
  rcases Nat.eq_zero_or_pos l.length with h0 | h0
  · have HV := Lib.hid (hiV_none (l := pl l) (by rw [pl_len]; exact h0))
    have h1 : ((l.length : Int) == 0) = true := by rw [h0]; rfl
    clear h0
    go_wp2
    go_ret2
    exact rpost (by rw [HV.out] <;> rfl) HB
  · have h1 : ((l.length : Int) == 0) = false := by rw [beq_eq_false_iff_ne]; omega
    have HG := Lib.hid hg; clear hg
    have HP := Lib.hid h0; clear h0
    go_wp2_with fail
    refine (max_any P cap l w1 (HR.out.keep HB) HG.out HP.out).mono ?_
    rintro e w2 ⟨hlt, rfl, hB2⟩
    obtain ⟨j, hj⟩ : ∃ j, hiN (pl l) l.length = j := ⟨_, rfl⟩
    simp only [hj] at hlt ⊢
    obtain ⟨x, hx⟩ : ∃ x, l[j] = x := ⟨_, rfl⟩
    have HV := Lib.hid (hiV_yes (l := pl l) (x := x.pure) HG.out (by rw [pl_len]; exact HP.out) (by rw [pl_len, hj]; exact hlt) (by simp only [pl_len, hj]; exact pl_x hlt hx))
    replace HB := be HB hB2
    rw [hx]
    clear hx hj hB2
    go_wp2
    go_ret2
    exact rpost (by rw [HV.out] <;> rfl) (al HB)
set_option maxHeartbeats 1000000 in
theorem hi_spec (P : Option Addr) (cap : Nat) (l : List R) (w : World) (hr : Hs w w.heap.size P l) :
    Calls Try.prog 70 #[.slice P l.length cap] w (RPost (hiV (pl l)) w) := by
  have hn := hr.len
  have HR := Lib.hid hr; clear hr
  go_enter Try.func70, Try.ntmps70
  go_wp2_with fail
  refine (good_spec P cap l w HR.out).mono ?_
  rintro e w1 ⟨rfl, HB⟩
  cases hg : good (pl l)
  · have HV := Lib.hid (hiV_bad hg)
    go_wp2
    go_ret2
    exact rpost (by rw [HV.out] <;> rfl) HB
  rcases Nat.eq_zero_or_pos l.length with h0 | h0
  · have HV := Lib.hid (hiV_none (l := pl l) (by rw [pl_len]; exact h0))
    have h1 : ((l.length : Int) == 0) = true := by rw [h0]; rfl
    clear h0
    go_wp2
    go_ret2
    exact rpost (by rw [HV.out] <;> rfl) HB
  have h1 : ((l.length : Int) == 0) = false := by rw [beq_eq_false_iff_ne]; omega
  have HG := Lib.hid hg; clear hg
  have HP := Lib.hid h0
  go_wp2
  go_loopw [4, 5] (fun u i wr => ∃ (k : Nat) (j : Nat), 1 ≤ k ∧ k ≤ l.length ∧ i = .int .i64 k ∧ u = .int .i64 j ∧ Hid (hiN (pl l) k = j) ∧ j < l.length ∧ Below w.heap.size w wr) (fun _ i _ => l.length - (intOf i).toNat)
  case atStart => exact ⟨1, 0, Nat.le_refl _, h0, rfl, rfl, Lib.hid (hiN_one _), h0, HB⟩
  case round =>
    clear HB h0
    obtain ⟨k, j, hk1, hk, rfl, rfl, HJ, hjl, HB⟩ := hrel
    obtain ⟨y, hy⟩ : ∃ y, l[j] = y := ⟨_, rfl⟩
    by_cases hlt : k < l.length
    · obtain ⟨x, hx⟩ : ∃ x, l[k] = x := ⟨_, rfl⟩
      obtain ⟨b, o, rfl, hb, c0, c1, c2, c3⟩ := hs_at HR.out (Below.refl _ _) hlt hx
      obtain ⟨b', o', hA, hb', d0, d1, d2, d3⟩ := hs_at HR.out (Below.refl _ _) hjl hy
      obtain ⟨rfl, rfl⟩ : b = b' ∧ o = o' := by injection hA with hA; injection hA with e1 e2 _; exact ⟨e1, e2⟩
      have hrx := hs_row HR.out hlt hx
      have hry := hs_row HR.out hjl hy
      have HRX := Lib.hid hrx.1; have HRY := Lib.hid hry.1
      have hbx := row_bd HG.out hlt hx
      have hby := row_bd HG.out hjl hy
      have nx := hbx.1; have ny := hby.1
      have BX := Lib.hid hbx.2.1; have BY := Lib.hid hby.2.1
      have HPX := Lib.hid (pl_x hlt hx)
      have HPY := Lib.hid (pl_x hjl hy)
      have HLT := Lib.hid hlt; have HJL := Lib.hid hjl
      clear hrx hry hx hy hA hb' hbx hby
      have HBT := Lib.hid (show better x.pure y.pure = (decide (y.f2.ls.length < x.f2.ls.length) || (decide (x.f2.ls.length = y.f2.ls.length) && decide (y.f2.ls.sum < x.f2.ls.sum))) from rfl)
      rcases Nat.lt_trichotomy y.f2.ls.length x.f2.ls.length with h9 | h9 | h9
      · have hbt : better x.pure y.pure = true := by rw [HBT.out, decide_eq_true h9]; rfl
        have e1 : decide (y.f2.ls.length < x.f2.ls.length) = true := decide_eq_true h9
        have e2 : decide ((y.f2.ls.length : Int) < x.f2.ls.length) = true := decide_eq_true (by omega)
        have HN := Lib.hid (hiN_yes' hk1 (pl_lt HLT.out) HPX.out HJ.out (pl_lt HJL.out) HPY.out hbt)
        clear hbt
        go_wp2
        have c0_c := ((bcell HB).1 _ _ hb).trans c0
        have c1_c := ((bcell HB).1 _ _ hb).trans c1
        have c2_c := ((bcell HB).1 _ _ hb).trans c2
        have c3_c := ((bcell HB).1 _ _ hb).trans c3
        have d0_c := ((bcell HB).1 _ _ hb).trans d0
        have d1_c := ((bcell HB).1 _ _ hb).trans d1
        have d2_c := ((bcell HB).1 _ _ hb).trans d2
        have d3_c := ((bcell HB).1 _ _ hb).trans d3
        refine wp_region_text (fun w' => Below w.heap.size w w') (by kernel_rfl) (by kernel_rfl) (be HB (Below.refl _ _).drew) ?_
        clear c0_c
        clear c1_c
        clear c2_c
        clear c3_c
        clear d0_c
        clear d1_c
        clear d2_c
        clear d3_c
        iterate 14 (
          apply SeqH.one
          · intro uw K hS hK
            have qHB := hS
            have qc0_c := ((bcell qHB).1 _ _ hb).trans c0
            have qc1_c := ((bcell qHB).1 _ _ hb).trans c1
            have qc2_c := ((bcell qHB).1 _ _ hb).trans c2
            have qc3_c := ((bcell qHB).1 _ _ hb).trans c3
            have qd0_c := ((bcell qHB).1 _ _ hb).trans d0
            have qd1_c := ((bcell qHB).1 _ _ hb).trans d1
            have qd2_c := ((bcell qHB).1 _ _ hb).trans d2
            have qd3_c := ((bcell qHB).1 _ _ hb).trans d3
            first
              | (go_simp; exact hK.out _ qHB)
          try simp only [Act.put, List.setIfInBounds_toArray, List.set_cons_zero, List.set_cons_succ])
        refine SeqH.end' rfl ?_
        intro v1 hS
        clear HB
        have HB := hS; clear hS
        have c0_c := ((bcell HB).1 _ _ hb).trans c0
        have c1_c := ((bcell HB).1 _ _ hb).trans c1
        have c2_c := ((bcell HB).1 _ _ hb).trans c2
        have c3_c := ((bcell HB).1 _ _ hb).trans c3
        have d0_c := ((bcell HB).1 _ _ hb).trans d0
        have d1_c := ((bcell HB).1 _ _ hb).trans d1
        have d2_c := ((bcell HB).1 _ _ hb).trans d2
        have d3_c := ((bcell HB).1 _ _ hb).trans d3
        go_wp2_with fail
        refine wp_region_text (fun w' => Below w.heap.size w w') (by kernel_rfl) (by kernel_rfl) (be HB (Below.refl _ _).drew) ?_
        clear c0_c
        clear c1_c
        clear c2_c
        clear c3_c
        clear d0_c
        clear d1_c
        clear d2_c
        clear d3_c
        iterate 21 (
          apply SeqH.one
          · intro uw K hS hK
            have qHB := hS
            have qc0_c := ((bcell qHB).1 _ _ hb).trans c0
            have qc1_c := ((bcell qHB).1 _ _ hb).trans c1
            have qc2_c := ((bcell qHB).1 _ _ hb).trans c2
            have qc3_c := ((bcell qHB).1 _ _ hb).trans c3
            have qd0_c := ((bcell qHB).1 _ _ hb).trans d0
            have qd1_c := ((bcell qHB).1 _ _ hb).trans d1
            have qd2_c := ((bcell qHB).1 _ _ hb).trans d2
            have qd3_c := ((bcell qHB).1 _ _ hb).trans d3
            first
              | (go_simp; exact hK.out _ qHB)
              | (go_simp; go_at_call 126; (with_reducible refine (tons_spec x _ (rd_keep HRX.out qHB) nx BX.out).mono ?_); rintro e uw1 ⟨rfl, hv⟩; go_wp2_with fail; exact hK.out _ (be qHB hv))
              | (go_simp; go_at_call 126; (with_reducible refine (tons_spec y _ (rd_keep HRY.out qHB) ny BY.out).mono ?_); rintro e uw1 ⟨rfl, hv⟩; go_wp2_with fail; exact hK.out _ (be qHB hv))
          try simp only [Act.put, List.setIfInBounds_toArray, List.set_cons_zero, List.set_cons_succ])
        refine SeqH.end' rfl ?_
        intro v2 hS
        clear HB
        have HB := hS; clear hS
        have c0_c := ((bcell HB).1 _ _ hb).trans c0
        have c1_c := ((bcell HB).1 _ _ hb).trans c1
        have c2_c := ((bcell HB).1 _ _ hb).trans c2
        have c3_c := ((bcell HB).1 _ _ hb).trans c3
        have d0_c := ((bcell HB).1 _ _ hb).trans d0
        have d1_c := ((bcell HB).1 _ _ hb).trans d1
        have d2_c := ((bcell HB).1 _ _ hb).trans d2
        have d3_c := ((bcell HB).1 _ _ hb).trans d3
        go_wp2
        go_roundw
        case rel => exact ⟨k + 1, k, by omega, HLT.out, by go_num, rfl, HN, HLT.out, HB⟩
        case measure => have := HLT.out; simp [intOf]; omega
      · have HE := Lib.hid h9
        have e1 : decide (y.f2.ls.length < x.f2.ls.length) = false := decide_eq_false (by omega)
        have e2 : decide ((y.f2.ls.length : Int) < x.f2.ls.length) = false := decide_eq_false (by omega)
        have e3 : ((x.f2.ls.length : Int) == y.f2.ls.length) = true := by rw [beq_iff_eq]; omega
        have e4 : (x.f2.ls.length == y.f2.ls.length) = true := by rw [beq_iff_eq]; omega
        clear h9
        cases hs : decide (y.f2.ls.sum < x.f2.ls.sum)
        · have hbt : better x.pure y.pure = false := by rw [HBT.out, e1, hs, Bool.and_false]; rfl
          have HN := Lib.hid (hiN_no' hk1 (pl_lt HLT.out) HPX.out HJ.out (pl_lt HJL.out) HPY.out hbt)
          clear hbt
          go_wp2
          have c0_c := ((bcell HB).1 _ _ hb).trans c0
          have c1_c := ((bcell HB).1 _ _ hb).trans c1
          have c2_c := ((bcell HB).1 _ _ hb).trans c2
          have c3_c := ((bcell HB).1 _ _ hb).trans c3
          have d0_c := ((bcell HB).1 _ _ hb).trans d0
          have d1_c := ((bcell HB).1 _ _ hb).trans d1
          have d2_c := ((bcell HB).1 _ _ hb).trans d2
          have d3_c := ((bcell HB).1 _ _ hb).trans d3
          refine wp_region_text (fun w' => Below w.heap.size w w') (by kernel_rfl) (by kernel_rfl) (be HB (Below.refl _ _).drew) ?_
          clear c0_c
          clear c1_c
          clear c2_c
          clear c3_c
          clear d0_c
          clear d1_c
          clear d2_c
          clear d3_c
          iterate 14 (
            apply SeqH.one
            · intro uw K hS hK
              have qHB := hS
              have qc0_c := ((bcell qHB).1 _ _ hb).trans c0
              have qc1_c := ((bcell qHB).1 _ _ hb).trans c1
              have qc2_c := ((bcell qHB).1 _ _ hb).trans c2
              have qc3_c := ((bcell qHB).1 _ _ hb).trans c3
              have qd0_c := ((bcell qHB).1 _ _ hb).trans d0
              have qd1_c := ((bcell qHB).1 _ _ hb).trans d1
              have qd2_c := ((bcell qHB).1 _ _ hb).trans d2
              have qd3_c := ((bcell qHB).1 _ _ hb).trans d3
              first
                | (go_simp; exact hK.out _ qHB)
            try simp only [Act.put, List.setIfInBounds_toArray, List.set_cons_zero, List.set_cons_succ])
          refine SeqH.end' rfl ?_
          intro v3 hS
          clear HB
          have HB := hS; clear hS
          have c0_c := ((bcell HB).1 _ _ hb).trans c0
          have c1_c := ((bcell HB).1 _ _ hb).trans c1
          have c2_c := ((bcell HB).1 _ _ hb).trans c2
          have c3_c := ((bcell HB).1 _ _ hb).trans c3
          have d0_c := ((bcell HB).1 _ _ hb).trans d0
          have d1_c := ((bcell HB).1 _ _ hb).trans d1
          have d2_c := ((bcell HB).1 _ _ hb).trans d2
          have d3_c := ((bcell HB).1 _ _ hb).trans d3
          go_wp2_with fail
          refine wp_region_text (fun w' => Below w.heap.size w w') (by kernel_rfl) (by kernel_rfl) (be HB (Below.refl _ _).drew) ?_
          clear c0_c
          clear c1_c
          clear c2_c
          clear c3_c
          clear d0_c
          clear d1_c
          clear d2_c
          clear d3_c
          iterate 21 (
            apply SeqH.one
            · intro uw K hS hK
              have qHB := hS
              have qc0_c := ((bcell qHB).1 _ _ hb).trans c0
              have qc1_c := ((bcell qHB).1 _ _ hb).trans c1
              have qc2_c := ((bcell qHB).1 _ _ hb).trans c2
              have qc3_c := ((bcell qHB).1 _ _ hb).trans c3
              have qd0_c := ((bcell qHB).1 _ _ hb).trans d0
              have qd1_c := ((bcell qHB).1 _ _ hb).trans d1
              have qd2_c := ((bcell qHB).1 _ _ hb).trans d2
              have qd3_c := ((bcell qHB).1 _ _ hb).trans d3
              first
                | (go_simp; exact hK.out _ qHB)
                | (go_simp; go_at_call 126; (with_reducible refine (tons_spec x _ (rd_keep HRX.out qHB) nx BX.out).mono ?_); rintro e uw1 ⟨rfl, hv⟩; go_wp2_with fail; exact hK.out _ (be qHB hv))
                | (go_simp; go_at_call 126; (with_reducible refine (tons_spec y _ (rd_keep HRY.out qHB) ny BY.out).mono ?_); rintro e uw1 ⟨rfl, hv⟩; go_wp2_with fail; exact hK.out _ (be qHB hv))
            try simp only [Act.put, List.setIfInBounds_toArray, List.set_cons_zero, List.set_cons_succ])
          refine SeqH.end' rfl ?_
          intro v4 hS
          clear HB
          have HB := hS; clear hS
          have c0_c := ((bcell HB).1 _ _ hb).trans c0
          have c1_c := ((bcell HB).1 _ _ hb).trans c1
          have c2_c := ((bcell HB).1 _ _ hb).trans c2
          have c3_c := ((bcell HB).1 _ _ hb).trans c3
          have d0_c := ((bcell HB).1 _ _ hb).trans d0
          have d1_c := ((bcell HB).1 _ _ hb).trans d1
          have d2_c := ((bcell HB).1 _ _ hb).trans d2
          have d3_c := ((bcell HB).1 _ _ hb).trans d3
          go_wp2
          go_roundw
          case rel => exact ⟨k + 1, j, by omega, HLT.out, by go_num, rfl, HN, HJL.out, HB⟩
          case measure => have := HLT.out; simp [intOf]; omega
        · have hbt : better x.pure y.pure = true := by rw [HBT.out, hs, decide_eq_true HE.out.symm, Bool.and_true, Bool.or_true]
          have HN := Lib.hid (hiN_yes' hk1 (pl_lt HLT.out) HPX.out HJ.out (pl_lt HJL.out) HPY.out hbt)
          clear hbt
          go_wp2
          have c0_c := ((bcell HB).1 _ _ hb).trans c0
          have c1_c := ((bcell HB).1 _ _ hb).trans c1
          have c2_c := ((bcell HB).1 _ _ hb).trans c2
          have c3_c := ((bcell HB).1 _ _ hb).trans c3
          have d0_c := ((bcell HB).1 _ _ hb).trans d0
          have d1_c := ((bcell HB).1 _ _ hb).trans d1
          have d2_c := ((bcell HB).1 _ _ hb).trans d2
          have d3_c := ((bcell HB).1 _ _ hb).trans d3
          refine wp_region_text (fun w' => Below w.heap.size w w') (by kernel_rfl) (by kernel_rfl) (be HB (Below.refl _ _).drew) ?_
          clear c0_c
          clear c1_c
          clear c2_c
          clear c3_c
          clear d0_c
          clear d1_c
          clear d2_c
          clear d3_c
          iterate 14 (
            apply SeqH.one
            · intro uw K hS hK
              have qHB := hS
              have qc0_c := ((bcell qHB).1 _ _ hb).trans c0
              have qc1_c := ((bcell qHB).1 _ _ hb).trans c1
              have qc2_c := ((bcell qHB).1 _ _ hb).trans c2
              have qc3_c := ((bcell qHB).1 _ _ hb).trans c3
              have qd0_c := ((bcell qHB).1 _ _ hb).trans d0
              have qd1_c := ((bcell qHB).1 _ _ hb).trans d1
              have qd2_c := ((bcell qHB).1 _ _ hb).trans d2
              have qd3_c := ((bcell qHB).1 _ _ hb).trans d3
              first
                | (go_simp; exact hK.out _ qHB)
            try simp only [Act.put, List.setIfInBounds_toArray, List.set_cons_zero, List.set_cons_succ])
          refine SeqH.end' rfl ?_
          intro v5 hS
          clear HB
          have HB := hS; clear hS
          have c0_c := ((bcell HB).1 _ _ hb).trans c0
          have c1_c := ((bcell HB).1 _ _ hb).trans c1
          have c2_c := ((bcell HB).1 _ _ hb).trans c2
          have c3_c := ((bcell HB).1 _ _ hb).trans c3
          have d0_c := ((bcell HB).1 _ _ hb).trans d0
          have d1_c := ((bcell HB).1 _ _ hb).trans d1
          have d2_c := ((bcell HB).1 _ _ hb).trans d2
          have d3_c := ((bcell HB).1 _ _ hb).trans d3
          go_wp2_with fail
          refine wp_region_text (fun w' => Below w.heap.size w w') (by kernel_rfl) (by kernel_rfl) (be HB (Below.refl _ _).drew) ?_
          clear c0_c
          clear c1_c
          clear c2_c
          clear c3_c
          clear d0_c
          clear d1_c
          clear d2_c
          clear d3_c
          iterate 21 (
            apply SeqH.one
            · intro uw K hS hK
              have qHB := hS
              have qc0_c := ((bcell qHB).1 _ _ hb).trans c0
              have qc1_c := ((bcell qHB).1 _ _ hb).trans c1
              have qc2_c := ((bcell qHB).1 _ _ hb).trans c2
              have qc3_c := ((bcell qHB).1 _ _ hb).trans c3
              have qd0_c := ((bcell qHB).1 _ _ hb).trans d0
              have qd1_c := ((bcell qHB).1 _ _ hb).trans d1
              have qd2_c := ((bcell qHB).1 _ _ hb).trans d2
              have qd3_c := ((bcell qHB).1 _ _ hb).trans d3
              first
                | (go_simp; exact hK.out _ qHB)
                | (go_simp; go_at_call 126; (with_reducible refine (tons_spec x _ (rd_keep HRX.out qHB) nx BX.out).mono ?_); rintro e uw1 ⟨rfl, hv⟩; go_wp2_with fail; exact hK.out _ (be qHB hv))
                | (go_simp; go_at_call 126; (with_reducible refine (tons_spec y _ (rd_keep HRY.out qHB) ny BY.out).mono ?_); rintro e uw1 ⟨rfl, hv⟩; go_wp2_with fail; exact hK.out _ (be qHB hv))
            try simp only [Act.put, List.setIfInBounds_toArray, List.set_cons_zero, List.set_cons_succ])
          refine SeqH.end' rfl ?_
          intro v6 hS
          clear HB
          have HB := hS; clear hS
          have c0_c := ((bcell HB).1 _ _ hb).trans c0
          have c1_c := ((bcell HB).1 _ _ hb).trans c1
          have c2_c := ((bcell HB).1 _ _ hb).trans c2
          have c3_c := ((bcell HB).1 _ _ hb).trans c3
          have d0_c := ((bcell HB).1 _ _ hb).trans d0
          have d1_c := ((bcell HB).1 _ _ hb).trans d1
          have d2_c := ((bcell HB).1 _ _ hb).trans d2
          have d3_c := ((bcell HB).1 _ _ hb).trans d3
          go_wp2
          go_roundw
          case rel => exact ⟨k + 1, k, by omega, HLT.out, by go_num, rfl, HN, HLT.out, HB⟩
          case measure => have := HLT.out; simp [intOf]; omega
      · have e1 : decide (y.f2.ls.length < x.f2.ls.length) = false := decide_eq_false (by omega)
        have hbt : better x.pure y.pure = false := by rw [HBT.out, e1, decide_eq_false (by omega)]; rfl
        have e2 : decide ((y.f2.ls.length : Int) < x.f2.ls.length) = false := decide_eq_false (by omega)
        have e3 : ((x.f2.ls.length : Int) == y.f2.ls.length) = false := by rw [beq_eq_false_iff_ne]; omega
        have e4 : (x.f2.ls.length == y.f2.ls.length) = false := by rw [beq_eq_false_iff_ne]; omega
        clear h9
        have HN := Lib.hid (hiN_no' hk1 (pl_lt HLT.out) HPX.out HJ.out (pl_lt HJL.out) HPY.out hbt)
        clear hbt
        go_wp2
        have c0_c := ((bcell HB).1 _ _ hb).trans c0
        have c1_c := ((bcell HB).1 _ _ hb).trans c1
        have c2_c := ((bcell HB).1 _ _ hb).trans c2
        have c3_c := ((bcell HB).1 _ _ hb).trans c3
        have d0_c := ((bcell HB).1 _ _ hb).trans d0
        have d1_c := ((bcell HB).1 _ _ hb).trans d1
        have d2_c := ((bcell HB).1 _ _ hb).trans d2
        have d3_c := ((bcell HB).1 _ _ hb).trans d3
        refine wp_region_text (fun w' => Below w.heap.size w w') (by kernel_rfl) (by kernel_rfl) (be HB (Below.refl _ _).drew) ?_
        clear c0_c
        clear c1_c
        clear c2_c
        clear c3_c
        clear d0_c
        clear d1_c
        clear d2_c
        clear d3_c
        iterate 14 (
          apply SeqH.one
          · intro uw K hS hK
            have qHB := hS
            have qc0_c := ((bcell qHB).1 _ _ hb).trans c0
            have qc1_c := ((bcell qHB).1 _ _ hb).trans c1
            have qc2_c := ((bcell qHB).1 _ _ hb).trans c2
            have qc3_c := ((bcell qHB).1 _ _ hb).trans c3
            have qd0_c := ((bcell qHB).1 _ _ hb).trans d0
            have qd1_c := ((bcell qHB).1 _ _ hb).trans d1
            have qd2_c := ((bcell qHB).1 _ _ hb).trans d2
            have qd3_c := ((bcell qHB).1 _ _ hb).trans d3
            first
              | (go_simp; exact hK.out _ qHB)
          try simp only [Act.put, List.setIfInBounds_toArray, List.set_cons_zero, List.set_cons_succ])
        refine SeqH.end' rfl ?_
        intro v7 hS
        clear HB
        have HB := hS; clear hS
        have c0_c := ((bcell HB).1 _ _ hb).trans c0
        have c1_c := ((bcell HB).1 _ _ hb).trans c1
        have c2_c := ((bcell HB).1 _ _ hb).trans c2
        have c3_c := ((bcell HB).1 _ _ hb).trans c3
        have d0_c := ((bcell HB).1 _ _ hb).trans d0
        have d1_c := ((bcell HB).1 _ _ hb).trans d1
        have d2_c := ((bcell HB).1 _ _ hb).trans d2
        have d3_c := ((bcell HB).1 _ _ hb).trans d3
        go_wp2_with fail
        refine wp_region_text (fun w' => Below w.heap.size w w') (by kernel_rfl) (by kernel_rfl) (be HB (Below.refl _ _).drew) ?_
        clear c0_c
        clear c1_c
        clear c2_c
        clear c3_c
        clear d0_c
        clear d1_c
        clear d2_c
        clear d3_c
        iterate 21 (
          apply SeqH.one
          · intro uw K hS hK
            have qHB := hS
            have qc0_c := ((bcell qHB).1 _ _ hb).trans c0
            have qc1_c := ((bcell qHB).1 _ _ hb).trans c1
            have qc2_c := ((bcell qHB).1 _ _ hb).trans c2
            have qc3_c := ((bcell qHB).1 _ _ hb).trans c3
            have qd0_c := ((bcell qHB).1 _ _ hb).trans d0
            have qd1_c := ((bcell qHB).1 _ _ hb).trans d1
            have qd2_c := ((bcell qHB).1 _ _ hb).trans d2
            have qd3_c := ((bcell qHB).1 _ _ hb).trans d3
            first
              | (go_simp; exact hK.out _ qHB)
              | (go_simp; go_at_call 126; (with_reducible refine (tons_spec x _ (rd_keep HRX.out qHB) nx BX.out).mono ?_); rintro e uw1 ⟨rfl, hv⟩; go_wp2_with fail; exact hK.out _ (be qHB hv))
              | (go_simp; go_at_call 126; (with_reducible refine (tons_spec y _ (rd_keep HRY.out qHB) ny BY.out).mono ?_); rintro e uw1 ⟨rfl, hv⟩; go_wp2_with fail; exact hK.out _ (be qHB hv))
          try simp only [Act.put, List.setIfInBounds_toArray, List.set_cons_zero, List.set_cons_succ])
        refine SeqH.end' rfl ?_
        intro v8 hS
        clear HB
        have HB := hS; clear hS
        have c0_c := ((bcell HB).1 _ _ hb).trans c0
        have c1_c := ((bcell HB).1 _ _ hb).trans c1
        have c2_c := ((bcell HB).1 _ _ hb).trans c2
        have c3_c := ((bcell HB).1 _ _ hb).trans c3
        have d0_c := ((bcell HB).1 _ _ hb).trans d0
        have d1_c := ((bcell HB).1 _ _ hb).trans d1
        have d2_c := ((bcell HB).1 _ _ hb).trans d2
        have d3_c := ((bcell HB).1 _ _ hb).trans d3
        go_wp2
        go_roundw
        case rel => exact ⟨k + 1, j, by omega, HLT.out, by go_num, rfl, HN, HJL.out, HB⟩
        case measure => have := HLT.out; simp [intOf]; omega
    · have hkk : k = l.length := by omega
      subst hkk
      obtain ⟨b, o, rfl, hb, c0, c1, c2, c3⟩ := hs_at HR.out HB hjl hy
      have hj := HJ.out
      have HV := Lib.hid (hiV_yes (l := pl l) (x := y.pure) HG.out (by rw [pl_len]; exact HP.out) (by rw [pl_len, hj]; exact hjl) (by simp only [pl_len, hj]; exact pl_x hjl hy))
      clear hj hy
      go_wp2
      go_ret2
      exact rpost (by rw [HV.out] <;> rfl) HB
end Go.Proofs.Ytpbmncecejchjaa.HeapY
