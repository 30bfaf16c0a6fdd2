/- Trips: the crossings of a trip; cmp.Compare. -/
import Derived.Test.YtknlgdahcfgbeaaTripL
import Derived.Shelf.Abstract
namespace Go.Proofs.Ytknlgdahcfgbeaa.TripC
open Go.RowKit Go.Proofs.Ytknlgdahcfgbeaa.Mem Go.Proofs.Ytknlgdahcfgbeaa.Base Go.Proofs.Ytknlgdahcfgbeaa.Within Go.Proofs.Ytknlgdahcfgbeaa.STrip Go.Proofs.Ytknlgdahcfgbeaa.Regn Go.Proofs.Ytknlgdahcfgbeaa.Boxes Go.Proofs.Ytknlgdahcfgbeaa.Keep Go.Proofs.Ytknlgdahcfgbeaa.TripP Go.Proofs.Ytknlgdahcfgbeaa.TripS
set_option linter.unusedVariables false
set_option linter.unusedSimpArgs false
set_option maxRecDepth 100000
def cmpI (a b : Int) : Int := if a < b then -1 else if b < a then 1 else 0
theorem nan_any (x : Int) (w : World) : Calls Try.prog 57 #[.int .i64 x] w (BPost false w) := by
  have hx : (x != x) = false := by simp
  go_enter Try.func57, Try.ntmps57
  go_wp2
  go_ret
  exact bpost rfl
theorem cmp_any (a b : Int) (w : World) : Calls Try.prog 44 #[.int .i64 a, .int .i64 b] w fun e w' => e = .returned (.int .i64 (cmpI a b)) ∧ w = w' := by
  rcases Int.lt_trichotomy a b with h | h | h
  · have HV := Lib.hid (show cmpI a b = -1 by unfold cmpI; rw [if_pos h])
    go_enter Try.func44, Try.ntmps44
    go_wp2_with (go_at_call 57; (with_reducible refine (nan_any _ _).mono ?_); rintro e' w' ⟨rfl, rfl⟩)
    go_ret
    exact ⟨by rw [HV.out]; rfl, rfl⟩
  · subst h
    have HV := Lib.hid (show cmpI a a = 0 by unfold cmpI; rw [if_neg (by omega), if_neg (by omega)])
    go_enter Try.func44, Try.ntmps44
    go_wp2_with (go_at_call 57; (with_reducible refine (nan_any _ _).mono ?_); rintro e' w' ⟨rfl, rfl⟩)
    go_ret
    exact ⟨by rw [HV.out]; rfl, rfl⟩
  · have HV := Lib.hid (show cmpI a b = 1 by unfold cmpI; rw [if_neg (by omega), if_pos h])
    have h2 : decide (a < b) = false := decide_eq_false (by omega)
    go_enter Try.func44, Try.ntmps44
    go_wp2_with (go_at_call 57; (with_reducible refine (nan_any _ _).mono ?_); rintro e' w' ⟨rfl, rfl⟩)
    go_ret
    exact ⟨by rw [HV.out]; rfl, rfl⟩
/-- a crossing: the section, when it is entered, when it is left. -/
structure C where
  s : Int
  e : Int
  v : Int
def C.cells (x : C) : List Value := [.int .i64 x.s, .int .i64 x.e, .int .i64 x.v]
def cflat (l : List C) : List Value := l.flatMap C.cells
theorem cflat_n (l : List C) : (cflat l).length = l.length * 3 := flat_len C.cells 3 (fun _ => rfl) l
theorem cflat_0 (l : List C) (i : Nat) (h : i < l.length) : (cflat l)[i * 3]? = some (.int .i64 l[i].s) := flat_get C.cells 3 (fun _ => rfl) l i 0 h (by omega)
theorem cflat_1 (l : List C) (i : Nat) (h : i < l.length) : (cflat l)[i * 3 + 1]? = some (.int .i64 l[i].e) := flat_get C.cells 3 (fun _ => rfl) l i 1 h (by omega)
theorem cflat_2 (l : List C) (i : Nat) (h : i < l.length) : (cflat l)[i * 3 + 2]? = some (.int .i64 l[i].v) := flat_get C.cells 3 (fun _ => rfl) l i 2 h (by omega)
theorem cflat_snoc (l : List C) (x : C) : cflat (l ++ [x]) = cflat l ++ [.int .i64 x.s, .int .i64 x.e, .int .i64 x.v] := by unfold cflat; rw [List.flatMap_append]; rfl
theorem info_C : (Try.prog.info? 51).map (fun i => (i.zero, i.size, i.bytes)) = some (some (.agg #[.int .i64 0, .int .i64 0, .int .i64 0]), 3, 24) := by kernel_rfl
theorem cell_at (w : World) (b o j : Nat) : w.cell? (Addr.add ⟨b, o, none⟩ j) = w.cell? ⟨b, o + j, none⟩ := by
  unfold Addr.add; split
  · rename_i h; subst h; rfl
  · rfl
theorem news3 (W : World) (a b c : Value) (T : TypeId) : ∀ j u, [a, b, c][j]? = some u → (W.alloc (.cells #[a, b, c] T)).cell? ((⟨W.heap.size, 0, none⟩ : Addr).add j) = some u := by
  intro j u hu
  rw [cell_at, Nat.zero_add, World.cell?_alloc_at _ _ _ _ rfl]
  simpa using hu
theorem ones3 (a b c : Int) : ∀ u ∈ [Value.int .i64 a, .int .i64 b, .int .i64 c], u.oneCell' = true := by
  intro u hu; simp at hu; rcases hu with rfl | rfl | rfl <;> rfl
theorem cempty (u : World) (base : Nat) (h : base ≤ u.heap.size) : (u.alloc (.cells #[] 51)).ownsRow base 51 3 (.slice (some ⟨u.heap.size, 0, none⟩) 0 0) 0 [] := by
  have := World.ownsRow_lit u #[] 0 (e := 51) (size := 3) (base := base) h (by unfold maxLen; omega) rfl
  simpa using this
/-- the crossings of a trip. -/
def cat (x : R) (i : Nat) : C := ⟨sec x i, x.f3 + 4 * i, x.f3 + 4 * i + 4⟩
def crossL (x : R) (k : Nat) : List C := (List.range k).map (cat x)
theorem crossL_len (x : R) (k : Nat) : (crossL x k).length = k := by simp [crossL]
theorem crossL_next (x : R) (k : Nat) : crossL x (k + 1) = crossL x k ++ [cat x k] := by unfold crossL; rw [List.range_succ, List.map_append]; rfl
theorem crossL_get (x : R) (k i : Nat) (h : i < (crossL x k).length) : (crossL x k)[i] = cat x i := by simp [crossL]
def CPost (L : List C) (w : World) (e : Ending) (w' : World) : Prop :=
  ∃ A c, e = .returned (.slice A L.length c) ∧ w'.ownsRow w.heap.size 51 3 (.slice A L.length c) L.length (cflat L) ∧ Below w.heap.size w w'
theorem c_mk {L M : List C} {w w' : World} {A : Option Addr} {c n : Nat} {v : Value} (hL : L = M) (hn : n = M.length) (h : v = .slice A n c)
    (ho : w'.ownsRow w.heap.size 51 3 (.slice A n c) n (cflat M)) (hB : Below w.heap.size w w') : CPost L w (.returned v) w' := by
  subst hL; subst hn; exact ⟨A, c, by rw [h], ho, hB⟩
theorem c_row {w : World} {base : Nat} {A1 : Option Addr} {c1 k : Nat} {x : R} {p e v : Int} (h : w.ownsRow base 51 3 (.slice A1 (k + 1) c1) (k + 1) (cflat (crossL x k) ++ [.int .i64 p, .int .i64 e, .int .i64 v])) (hp : p = sec x k) (he : e = x.f3 + 4 * k) (hv : v = x.f3 + 4 * k + 4) :
    w.ownsRow base 51 3 (.slice A1 (k + 1) c1) (k + 1) (cflat (crossL x (k + 1))) := by
  rw [crossL_next, cflat_snoc]; subst hp; subst he; subst hv; exact h
set_option maxHeartbeats 1600000 in
theorem cross_impl (x : R) (hx : okT x = true) (w : World) : Calls Try.prog 26 #[.agg #[.int .i64 x.f0, .int .i64 x.f1, .int .i64 x.f2, .int .i64 x.f3, .int .i64 x.f4]] w (CPost (crossL x (num x)) w) := by
  obtain ⟨i0, hi, hz0, hz1, hz2⟩ := info_parts info_C
  have HI := Lib.hid hz2; clear hz2
  have HI1 := Lib.hid hz1; clear hz1
  obtain ⟨a0, a1, a2, a3, a4, a5, a6, a7, a8, a9, a10, a11, a12⟩ := okT_true hx
  clear a0 a1 a9 a10 a11 a12
  by_cases hd : x.f1 < x.f2
  ·
    have HC := Lib.hid (show cmpI x.f2 x.f1 = 1 by unfold cmpI; rw [if_neg (by omega), if_pos hd])
    have hq : (num x : Int) = x.f2 - x.f1 := by unfold num most; split <;> omega
    obtain ⟨n, hnn⟩ : ∃ n, num x = n := ⟨_, rfl⟩
    rw [hnn] at hq ⊢
    have HSE := Lib.hid (show ∀ k : Nat, sec x k = x.f1 + k by intro k; unfold sec; rw [if_pos hd])
    clear hnn hx
    go_enter Try.func26, Try.ntmps26
    go_wp2_with (go_at_call 44; (with_reducible refine (cmp_any _ _ _).mono ?_); rintro e' w' ⟨rfl, rfl⟩; rw [HC.out])
    have B := (Box.new (Below.refl _ w) [.int .i64 x.f0, .int .i64 x.f1, .int .i64 x.f2, .int .i64 x.f3, .int .i64 x.f4] 25 (g := w.heap.size) rfl).alloc (.cells #[] 51)
    have O := cempty (w.alloc (.cells #[.int .i64 x.f0, .int .i64 x.f1, .int .i64 x.f2, .int .i64 x.f3, .int .i64 x.f4] 25)) (w.heap.size + 1) (by rw [size_alloc']; omega)
    rw [size_alloc'] at O
    go_loopw [3, 5, 6] (fun z m s wr => ∃ (k : Nat) (A : Option Addr) (c : Nat) (p r : Int), k ≤ n ∧ z = .slice A k c ∧ m = .int .i64 r ∧ s = .int .i64 p ∧ p = x.f1 + k ∧ r = x.f3 + 4 * k ∧ wr.ownsRow (w.heap.size + 1) 51 3 (.slice A k c) k (cflat (crossL x k)) ∧ Box w.heap.size [.int .i64 x.f0, .int .i64 x.f1, .int .i64 x.f2, .int .i64 x.f3, .int .i64 x.f4] w wr) (fun z m s wr => (x.f2 - intOf s).toNat)
    case atStart => exact ⟨0, _, _, x.f1, x.f3, Nat.zero_le _, rfl, rfl, rfl, by simp, by simp, O, B⟩
    case round =>
      clear B O
      obtain ⟨k, A, c, p, r, hk, rfl, rfl, rfl, hp, hr, O, B⟩ := hrel
      have B_1 := B.cells 1 _ rfl
      have B_2 := B.cells 2 _ rfl
      have B_t := B.there
      by_cases hlt : k < n
      · have e1 : (p != x.f2) = true := by rw [bne_iff_ne]; omega
        have HP := Lib.hid hp
        have HR := Lib.hid hr
        have z1 : IntKind.i64.wrap (p + 1) = p + 1 := IntWalk.i64_in _ (by omega)
        have z2 : IntKind.i64.wrap (r + 4) = r + 4 := IntWalk.i64_in _ (by omega)
        have hm1 : k + 1 ≤ maxLen := by unfold maxLen; omega
        have hm2 : (k + 1) * 24 ≤ 140737488355328 := by omega
        have HHB := Lib.hid B.there
        have hdec : decide (p < p + 1) = true := decide_eq_true (by omega)
        have hdec2 : decide (p + 1 < p) = false := decide_eq_false (by omega)
        have HBD := Lib.hid (show 0 ≤ p ∧ p ≤ 9 by omega)
        have HMS := Lib.hid (show (x.f2 - (p + 1)).toNat < (x.f2 - p).toNat by omega)
        clear hp hr
        go_wp2_with (at_builtin; go_must (refine wpList_append_own _ rfl _ _ 48 rfl (w.heap.size + 1) 51 i0 _ 3 24 Try.underlying48 hi hz0 HI1.out HI.out rfl (by decide) _ k _ rfl (O.alloc _) ⟨wr.heap.size, 0, none⟩ 1 1 [.int .i64 p, .int .i64 r, .int .i64 (r + 4)] rfl rfl (news3 _ _ _ _ _) (ones3 _ _ _) hm1 hm2 (by rw [size_alloc']; have := HHB.out; omega) ?_; intro v' w9 hown1 hgrow _))
        obtain ⟨A1, c1, rfl⟩ := own_form hown1
        have hO1 := c_row hown1 (by rw [HSE.out, HP.out]) HR.out (by rw [HR.out])
        have B9 := box_grown (B.alloc (.cells #[.int .i64 p, .int .i64 r, .int .i64 (r + 4)] 51)) hgrow (fun j hj => ⟨by have := own_ge O j hj; omega, by have := own_ge O j hj; omega⟩)
        clear hgrow hown1 hm1 hm2 O B B_1 B_2 B_t
        go_roundw
        case rel => exact ⟨k + 1, A1, c1, p + 1, r + 4, hlt, rfl, rfl, rfl, by have := HP.out; omega, by have := HR.out; omega, hO1, B9⟩
        case measure => have := HMS.out; simp only [intOf]; omega
      · have hkk : k = n := by omega
        have e1 : (p != x.f2) = false := by rw [bne_eq_false_iff_eq]; omega
        have HL := Lib.hid (show crossL x n = crossL x k by rw [hkk])
        clear hp hr hkk
        go_wp2
        go_ret
        exact c_mk HL.out (crossL_len x k).symm rfl (own_base O (Nat.le_succ _)) B.below
  ·
    have HC := Lib.hid (show cmpI x.f2 x.f1 = -1 by unfold cmpI; rw [if_pos (by omega)])
    have hq : (num x : Int) = x.f1 - x.f2 := by unfold num most; split <;> omega
    obtain ⟨n, hnn⟩ : ∃ n, num x = n := ⟨_, rfl⟩
    rw [hnn] at hq ⊢
    have HSE := Lib.hid (show ∀ k : Nat, sec x k = x.f1 - k + -1 by intro k; unfold sec; rw [if_neg (by omega)]; omega)
    clear hnn hx
    go_enter Try.func26, Try.ntmps26
    go_wp2_with (go_at_call 44; (with_reducible refine (cmp_any _ _ _).mono ?_); rintro e' w' ⟨rfl, rfl⟩; rw [HC.out])
    have B := (Box.new (Below.refl _ w) [.int .i64 x.f0, .int .i64 x.f1, .int .i64 x.f2, .int .i64 x.f3, .int .i64 x.f4] 25 (g := w.heap.size) rfl).alloc (.cells #[] 51)
    have O := cempty (w.alloc (.cells #[.int .i64 x.f0, .int .i64 x.f1, .int .i64 x.f2, .int .i64 x.f3, .int .i64 x.f4] 25)) (w.heap.size + 1) (by rw [size_alloc']; omega)
    rw [size_alloc'] at O
    go_loopw [3, 5, 6] (fun z m s wr => ∃ (k : Nat) (A : Option Addr) (c : Nat) (p r : Int), k ≤ n ∧ z = .slice A k c ∧ m = .int .i64 r ∧ s = .int .i64 p ∧ p = x.f1 - k ∧ r = x.f3 + 4 * k ∧ wr.ownsRow (w.heap.size + 1) 51 3 (.slice A k c) k (cflat (crossL x k)) ∧ Box w.heap.size [.int .i64 x.f0, .int .i64 x.f1, .int .i64 x.f2, .int .i64 x.f3, .int .i64 x.f4] w wr) (fun z m s wr => (intOf s - x.f2).toNat)
    case atStart => exact ⟨0, _, _, x.f1, x.f3, Nat.zero_le _, rfl, rfl, rfl, by simp, by simp, O, B⟩
    case round =>
      clear B O
      obtain ⟨k, A, c, p, r, hk, rfl, rfl, rfl, hp, hr, O, B⟩ := hrel
      have B_1 := B.cells 1 _ rfl
      have B_2 := B.cells 2 _ rfl
      have B_t := B.there
      by_cases hlt : k < n
      · have e1 : (p != x.f2) = true := by rw [bne_iff_ne]; omega
        have HP := Lib.hid hp
        have HR := Lib.hid hr
        have z1 : IntKind.i64.wrap (p + -1) = p + -1 := IntWalk.i64_in _ (by omega)
        have z2 : IntKind.i64.wrap (r + 4) = r + 4 := IntWalk.i64_in _ (by omega)
        have hm1 : k + 1 ≤ maxLen := by unfold maxLen; omega
        have hm2 : (k + 1) * 24 ≤ 140737488355328 := by omega
        have HHB := Lib.hid B.there
        have hdec : decide (p + -1 < p) = true := decide_eq_true (by omega)
        have hdec2 : decide (p < p + -1) = false := decide_eq_false (by omega)
        have HBD := Lib.hid (show 0 ≤ p ∧ p ≤ 9 by omega)
        have HMS := Lib.hid (show (p + -1 - x.f2).toNat < (p - x.f2).toNat by omega)
        clear hp hr
        go_wp2_with (at_builtin; go_must (refine wpList_append_own _ rfl _ _ 48 rfl (w.heap.size + 1) 51 i0 _ 3 24 Try.underlying48 hi hz0 HI1.out HI.out rfl (by decide) _ k _ rfl (O.alloc _) ⟨wr.heap.size, 0, none⟩ 1 1 [.int .i64 (p + -1), .int .i64 r, .int .i64 (r + 4)] rfl rfl (news3 _ _ _ _ _) (ones3 _ _ _) hm1 hm2 (by rw [size_alloc']; have := HHB.out; omega) ?_; intro v' w9 hown1 hgrow _))
        obtain ⟨A1, c1, rfl⟩ := own_form hown1
        have hO1 := c_row hown1 (by rw [HSE.out, HP.out]) HR.out (by rw [HR.out])
        have B9 := box_grown (B.alloc (.cells #[.int .i64 (p + -1), .int .i64 r, .int .i64 (r + 4)] 51)) hgrow (fun j hj => ⟨by have := own_ge O j hj; omega, by have := own_ge O j hj; omega⟩)
        clear hgrow hown1 hm1 hm2 O B B_1 B_2 B_t
        go_roundw
        case rel => exact ⟨k + 1, A1, c1, p + -1, r + 4, hlt, rfl, rfl, rfl, by have := HP.out; omega, by have := HR.out; omega, hO1, B9⟩
        case measure => have := HMS.out; simp only [intOf]; omega
      · have hkk : k = n := by omega
        have e1 : (p != x.f2) = false := by rw [bne_eq_false_iff_eq]; omega
        have HL := Lib.hid (show crossL x n = crossL x k by rw [hkk])
        clear hp hr hkk
        go_wp2
        go_ret
        exact c_mk HL.out (crossL_len x k).symm rfl (own_base O (Nat.le_succ _)) B.below
end Go.Proofs.Ytknlgdahcfgbeaa.TripC
