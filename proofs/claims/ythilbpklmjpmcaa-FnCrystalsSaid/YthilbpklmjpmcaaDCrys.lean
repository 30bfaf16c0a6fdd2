/- The draws of chapter 10's laws. Made by tools/mk_dcrys.py. -/
import Derived.Test.YthilbpklmjpmcaaDLiq
import Derived.Test.YthilbpklmjpmcaaLiqG
namespace Go.Proofs.Ythilbpklmjpmcaa.DCrys
open Go.RowKit Go.Proofs.Ythilbpklmjpmcaa.Mem Go.Proofs.Ythilbpklmjpmcaa.Base Go.Proofs.Ythilbpklmjpmcaa.Draw Go.Proofs.Ythilbpklmjpmcaa.Boxes Go.Proofs.Ythilbpklmjpmcaa.Keep Go.Proofs.Ythilbpklmjpmcaa.Dr Go.Proofs.Ythilbpklmjpmcaa.Regn Go.Proofs.Ythilbpklmjpmcaa.SInt Go.Proofs.Ythilbpklmjpmcaa.Nest Go.Proofs.Ythilbpklmjpmcaa.LiqG
open Go.Proofs.Ythilbpklmjpmcaa.DKind (own_low)
set_option linter.unusedVariables false
set_option maxRecDepth 100000
theorem cu_at {w : World} {A : Option Addr} {zs : List Int} (h : Src w A zs) (cap : Nat) {p : Nat} (hp : p = w.heap.size) : Cu w.heap.size zs p 0 (w.alloc (.cells #[.slice A zs.length cap, .int .i64 0, .int .u64 0] 70)) := ⟨0, Nat.le_refl _, hp ▸ cur_new h cap⟩
theorem below_of {w W : World} {p : Nat} (h : w.grownBy W (some p)) (hp : w.heap.size ≤ p) : Below w.heap.size w W := (Below.refl _ w).grown h (Nat.le_refl _) (fun k hk => by injection hk with hk; omega)
theorem below_set {w W : World} (h : Below w.heap.size w W) {g : Nat} (hg : w.heap.size ≤ g) (i : Nat) (v : Value) : Below w.heap.size w (W.setCell ⟨g, i, none⟩ v) := h.setCell (p := ⟨g, i, none⟩) hg v
theorem ak_of {w : World} {b1 b2 : Nat} {L : List SKind.R} {P A : Option Addr} {cap c : Nat} {s : List Int} (O : w.ownsRow b1 37 3 (.slice P L.length cap) L.length (SKind.flat L)) (hn : ∀ x ∈ L, x.f0.size ≤ maxLen) (OS : w.ownsRow b2 3 1 (.slice A s.length c) s.length (iv s)) (h1 : L.length ≤ 5) (h2 : s.length ≤ 7) : Ak w P L A s := ⟨Rd.of_own O, by omega, hn, Rd.of_own OS, by omega⟩
/-- kinds, a liquor. -/
def DQ (w : World) (e : Ending) (w' : World) : Prop := ∃ (L : List SKind.R) (P : Option Addr) (cap : Nat) (wt : Int) (A : Option Addr) (c : Nat) (s : List Int), L.length ≤ 5 ∧ s.length ≤ 7 ∧ e = .returned (.tuple #[.slice P L.length cap, .agg #[.int .i64 wt, .slice A s.length c]]) ∧ w'.ownsRow w.heap.size 37 3 (.slice P L.length cap) L.length (SKind.flat L) ∧ (∀ x ∈ L, x.f0.size ≤ maxLen) ∧ w'.ownsRow w.heap.size 3 1 (.slice A s.length c) s.length (iv s) ∧ Below w.heap.size w w'
/-- kinds, a liquor, an index. -/
def DX (w : World) (e : Ending) (w' : World) : Prop := ∃ (L : List SKind.R) (P : Option Addr) (cap : Nat) (wt : Int) (A : Option Addr) (c : Nat) (s : List Int) (i : Int), L.length ≤ 5 ∧ s.length ≤ 7 ∧ -1 ≤ i ∧ i ≤ 6 ∧ e = .returned (.tuple #[.slice P L.length cap, .agg #[.int .i64 wt, .slice A s.length c], .int .i64 i]) ∧ w'.ownsRow w.heap.size 37 3 (.slice P L.length cap) L.length (SKind.flat L) ∧ (∀ x ∈ L, x.f0.size ≤ maxLen) ∧ w'.ownsRow w.heap.size 3 1 (.slice A s.length c) s.length (iv s) ∧ Below w.heap.size w w'
set_option maxHeartbeats 1600000 in
theorem drawLiq (A : Option Addr) (cap : Nat) (zs : List Int) (w : World) (h : Draw.Src w A zs) : Calls Try.prog 54 #[.slice A zs.length cap] w (DQ w) := by
  have C0 := cu_at (h.below (al (Below.refl _ w) (o := .cells #[.int .i64 0, .slice none 0 0] 27))) cap (p := w.heap.size + 1) (by rw [size_alloc'])
  have R0 := (Cb.new w [.int .i64 0, .slice none 0 0] 27 (g := w.heap.size) rfl).alloc (.cells #[.slice A zs.length cap, .int .i64 0, .int .u64 0] 70)
  have G0 : w.grownBy ((w.alloc (.cells #[.int .i64 0, .slice none 0 0] 27)).alloc (.cells #[.slice A zs.length cap, .int .i64 0, .int .u64 0] 70)) (some (w.heap.size + 1)) := grown_trans (grown_alloc w _ _) (grown_alloc _ _ _)
  have S0 : ((w.alloc (.cells #[.int .i64 0, .slice none 0 0] 27)).alloc (.cells #[.slice A zs.length cap, .int .i64 0, .int .u64 0] 70)).heap.size = w.heap.size + 1 + 1 := by rw [size_alloc', size_alloc']
  have H0 := Lib.hid (And.intro C0 (And.intro R0 (And.intro G0 S0))); clear C0 R0 G0 S0
  go_enter Try.func54, Try.ntmps54
  go_wp2_with fail
  obtain ⟨C0, R, GW, sv⟩ := H0.out
  obtain ⟨B, C⟩ : ∃ B, Cu B zs (w.heap.size + 1) 0 ((w.alloc (.cells #[.int .i64 0, .slice none 0 0] 27)).alloc (.cells #[.slice A zs.length cap, .int .i64 0, .int .u64 0] 70)) := ⟨_, C0⟩
  clear C0 H0
  generalize (w.alloc (.cells #[.int .i64 0, .slice none 0 0] 27)).alloc (.cells #[.slice A zs.length cap, .int .i64 0, .int .u64 0] 70) = v at C R GW sv ⊢
  have zw : w.heap.size < w.heap.size + 1 := Nat.lt_succ_self _
  have zv := GW.size
  have hp := C.lt
  have hB := C.base
  generalize w.heap.size + 1 = p at *
  refine (DKind.kinds_d B zs p 0 v C (by omega)).mono ?_
  rintro e V1 ⟨L, g, c, hl, hn, rfl, O, C1, G1⟩
  rw [sv] at O
  replace GW := grown_trans GW G1
  replace R := R.went G1 (by omega)
  have zv1 := G1.size
  clear C G1
  have C := C1; clear C1
  have hg0 := own_ge O g rfl
  have hln : ∀ x ∈ L, x.f0.size ≤ maxLen := fun x hx => by have := hn x hx; unfold maxLen; omega
  clear hn
  go_wp2_with fail
  refine (DLiq.liquor_d B zs p _ V1 C (by omega) (some ⟨g, 0, none⟩) L.length c (by omega)).mono ?_
  rintro e V2 ⟨wt, AS, cs, s, hs, rfl, OS, C2, G2⟩
  replace OS : V2.ownsRow (p + 1) 3 1 (.slice AS s.length cs) s.length (iv s) := OS
  replace GW := grown_trans GW G2
  replace R := R.went G2 (by omega)
  replace O := own_grown O G2 (fun k hk => by injection hk with hk; omega)
  have zv2 := G2.size
  clear C G2
  have C := C2; clear C2
  have HB := below_of GW (by omega)
  clear GW
  have b0 := R.free 0 (by simp)
  have b1 := R.free 1 (by simp)
  have a0 := R.cells 0 _ rfl
  have a1 := R.cells 1 _ rfl
  have s0 := R.there
  have HOR := Lib.hid (And.intro O (And.intro OS R)); clear O OS R
  go_wp2
  have Q := (HOR.out.2.2.set 0 (.int .i64 wt)).set 1 (.slice AS s.length cs)
  have q0 := Q.cells 0 _ rfl
  have q1 := Q.cells 1 _ rfl
  have Q1 := own_far (own_far HOR.out.1 (k := w.heap.size) (by omega) 0 (.int .i64 wt)) (k := w.heap.size) (by omega) 1 (.slice AS s.length cs)
  have Q2 := own_low (own_low HOR.out.2.1 (k := w.heap.size) (by omega) 0 (.int .i64 wt)) (k := w.heap.size) (by omega) 1 (.slice AS s.length cs)
  exact bodyPost_ret (v := .tuple #[.slice (some ⟨g, 0, none⟩) L.length c, .agg #[.int .i64 wt, .slice AS s.length cs]]) (by simp [results, Try.results54, go_sem, q0, q1]) rfl ⟨L, _, c, wt, AS, cs, s, hl, hs, rfl, own_base Q1 (by omega), hln, own_base Q2 (by omega), below_set (below_set HB (Nat.le_refl _) _ _) (Nat.le_refl _) _ _⟩
set_option maxHeartbeats 1600000 in
theorem drawFull (A : Option Addr) (cap : Nat) (zs : List Int) (w : World) (h : Draw.Src w A zs) : Calls Try.prog 28 #[.slice A zs.length cap] w (DX w) := by
  have C0 := cu_at (h.below (al (Below.refl _ w) (o := .cells #[.int .i64 0, .slice none 0 0] 27))) cap (p := w.heap.size + 1) (by rw [size_alloc'])
  have R0 := (Cb.new w [.int .i64 0, .slice none 0 0] 27 (g := w.heap.size) rfl).alloc (.cells #[.slice A zs.length cap, .int .i64 0, .int .u64 0] 70)
  have G0 : w.grownBy ((w.alloc (.cells #[.int .i64 0, .slice none 0 0] 27)).alloc (.cells #[.slice A zs.length cap, .int .i64 0, .int .u64 0] 70)) (some (w.heap.size + 1)) := grown_trans (grown_alloc w _ _) (grown_alloc _ _ _)
  have S0 : ((w.alloc (.cells #[.int .i64 0, .slice none 0 0] 27)).alloc (.cells #[.slice A zs.length cap, .int .i64 0, .int .u64 0] 70)).heap.size = w.heap.size + 1 + 1 := by rw [size_alloc', size_alloc']
  have H0 := Lib.hid (And.intro C0 (And.intro R0 (And.intro G0 S0))); clear C0 R0 G0 S0
  go_enter Try.func28, Try.ntmps28
  go_wp2_with fail
  obtain ⟨C0, R, GW, sv⟩ := H0.out
  obtain ⟨B, C⟩ : ∃ B, Cu B zs (w.heap.size + 1) 0 ((w.alloc (.cells #[.int .i64 0, .slice none 0 0] 27)).alloc (.cells #[.slice A zs.length cap, .int .i64 0, .int .u64 0] 70)) := ⟨_, C0⟩
  clear C0 H0
  generalize (w.alloc (.cells #[.int .i64 0, .slice none 0 0] 27)).alloc (.cells #[.slice A zs.length cap, .int .i64 0, .int .u64 0] 70) = v at C R GW sv ⊢
  have zw : w.heap.size < w.heap.size + 1 := Nat.lt_succ_self _
  have zv := GW.size
  have hp := C.lt
  have hB := C.base
  generalize w.heap.size + 1 = p at *
  refine (DKind.kinds_d B zs p 0 v C (by omega)).mono ?_
  rintro e V1 ⟨L, g, c, hl, hn, rfl, O, C1, G1⟩
  rw [sv] at O
  replace GW := grown_trans GW G1
  replace R := R.went G1 (by omega)
  have zv1 := G1.size
  clear C G1
  have C := C1; clear C1
  have hg0 := own_ge O g rfl
  have hln : ∀ x ∈ L, x.f0.size ≤ maxLen := fun x hx => by have := hn x hx; unfold maxLen; omega
  clear hn
  go_wp2_with fail
  refine (DLiq.liquor_d B zs p _ V1 C (by omega) (some ⟨g, 0, none⟩) L.length c (by omega)).mono ?_
  rintro e V2 ⟨wt, AS, cs, s, hs, rfl, OS, C2, G2⟩
  replace OS : V2.ownsRow (p + 1) 3 1 (.slice AS s.length cs) s.length (iv s) := OS
  replace GW := grown_trans GW G2
  replace R := R.went G2 (by omega)
  replace O := own_grown O G2 (fun k hk => by injection hk with hk; omega)
  have zv2 := G2.size
  clear C G2
  have C := C2; clear C2
  go_wp2_with fail
  refine (DLiq.index_d B zs p _ V2 C (by omega) L.length (by omega)).mono ?_
  rintro e V3 ⟨ix, hx, rfl, C3, G3⟩
  replace GW := grown_trans GW G3
  replace R := R.went G3 (by omega)
  replace O := own_grown O G3 (fun k hk => by injection hk with hk; omega)
  replace OS := own_grown OS G3 (fun k hk => by injection hk with hk; omega)
  clear C G3 C3
  have HB := below_of GW (by omega)
  clear GW
  have b0 := R.free 0 (by simp)
  have b1 := R.free 1 (by simp)
  have a0 := R.cells 0 _ rfl
  have a1 := R.cells 1 _ rfl
  have s0 := R.there
  have HOR := Lib.hid (And.intro O (And.intro OS R)); clear O OS R
  go_wp2
  have Q := (HOR.out.2.2.set 0 (.int .i64 wt)).set 1 (.slice AS s.length cs)
  have q0 := Q.cells 0 _ rfl
  have q1 := Q.cells 1 _ rfl
  have Q1 := own_far (own_far HOR.out.1 (k := w.heap.size) (by omega) 0 (.int .i64 wt)) (k := w.heap.size) (by omega) 1 (.slice AS s.length cs)
  have Q2 := own_low (own_low HOR.out.2.1 (k := w.heap.size) (by omega) 0 (.int .i64 wt)) (k := w.heap.size) (by omega) 1 (.slice AS s.length cs)
  exact bodyPost_ret (v := .tuple #[.slice (some ⟨g, 0, none⟩) L.length c, .agg #[.int .i64 wt, .slice AS s.length cs], .int .i64 ix]) (by simp [results, Try.results28, go_sem, q0, q1]) rfl ⟨L, _, c, wt, AS, cs, s, ix, hl, hs, hx.1, by omega, rfl, own_base Q1 (by omega), hln, own_base Q2 (by omega), below_set (below_set HB (Nat.le_refl _) _ _) (Nat.le_refl _) _ _⟩
set_option maxHeartbeats 1600000 in
theorem drawFall (A : Option Addr) (cap : Nat) (zs : List Int) (w : World) (h : Draw.Src w A zs) : Calls Try.prog 15 #[.slice A zs.length cap] w (DQ w) := by
  have h1 := h.below (al (Below.refl _ w) (o := .cells #[.int .i64 0, .slice none 0 0] 27))
  have R0 := Cb.new w [.int .i64 0, .slice none 0 0] 27 (g := w.heap.size) rfl
  have S0 := size_alloc' w (.cells #[.int .i64 0, .slice none 0 0] 27)
  have B0 := al (Below.refl _ w) (o := .cells #[.int .i64 0, .slice none 0 0] 27)
  have H0 := Lib.hid (And.intro h1 (And.intro R0 (And.intro S0 B0))); clear h1 R0 S0 B0 h
  go_enter Try.func15, Try.ntmps15
  go_wp2_with fail
  refine (drawLiq A cap zs _ H0.out.1).mono ?_
  rintro e V ⟨L, P, cp, wt, AS, cs, s, hl, hs, rfl, O, hln, OS, HB⟩
  have HBW := H0.out.2.2.2.trans (HB.mono (by rw [H0.out.2.2.1]; omega))
  have R := H0.out.2.1.more HB
  rw [H0.out.2.2.1] at O OS
  clear H0 HB
  have b0 := R.free 0 (by simp)
  have b1 := R.free 1 (by simp)
  have a0 := R.cells 0 _ rfl
  have a1 := R.cells 1 _ rfl
  have HOR := Lib.hid (And.intro O (And.intro OS R)); clear O OS R
  go_wp2
  have Q := (HOR.out.2.2.set 0 (.int .i64 wt)).set 1 (.slice AS s.length cs)
  have q0 := Q.cells 0 _ rfl
  have q1 := Q.cells 1 _ rfl
  have Q1 := own_low (own_low HOR.out.1 (k := w.heap.size) (by omega) 0 (.int .i64 wt)) (k := w.heap.size) (by omega) 1 (.slice AS s.length cs)
  have Q2 := own_low (own_low HOR.out.2.1 (k := w.heap.size) (by omega) 0 (.int .i64 wt)) (k := w.heap.size) (by omega) 1 (.slice AS s.length cs)
  exact bodyPost_ret (v := .tuple #[.slice P L.length cp, .agg #[.int .i64 wt, .slice AS s.length cs]]) (by simp [results, Try.results15, go_sem, q0, q1]) rfl ⟨L, _, cp, wt, AS, cs, s, hl, hs, rfl, own_base Q1 (by omega), hln, own_base Q2 (by omega), below_set (below_set HBW (Nat.le_refl _) _ _) (Nat.le_refl _) _ _⟩
set_option maxHeartbeats 1600000 in
theorem drawFirst (A : Option Addr) (cap : Nat) (zs : List Int) (w : World) (h : Draw.Src w A zs) : Calls Try.prog 33 #[.slice A zs.length cap] w (DQ w) := by
  have h1 := h.below (al (Below.refl _ w) (o := .cells #[.int .i64 0, .slice none 0 0] 27))
  have R0 := Cb.new w [.int .i64 0, .slice none 0 0] 27 (g := w.heap.size) rfl
  have S0 := size_alloc' w (.cells #[.int .i64 0, .slice none 0 0] 27)
  have B0 := al (Below.refl _ w) (o := .cells #[.int .i64 0, .slice none 0 0] 27)
  have H0 := Lib.hid (And.intro h1 (And.intro R0 (And.intro S0 B0))); clear h1 R0 S0 B0 h
  go_enter Try.func33, Try.ntmps33
  go_wp2_with fail
  refine (drawLiq A cap zs _ H0.out.1).mono ?_
  rintro e V ⟨L, P, cp, wt, AS, cs, s, hl, hs, rfl, O, hln, OS, HB⟩
  have HBW := H0.out.2.2.2.trans (HB.mono (by rw [H0.out.2.2.1]; omega))
  have R := H0.out.2.1.more HB
  rw [H0.out.2.2.1] at O OS
  clear H0 HB
  have b0 := R.free 0 (by simp)
  have b1 := R.free 1 (by simp)
  have a0 := R.cells 0 _ rfl
  have a1 := R.cells 1 _ rfl
  have HOR := Lib.hid (And.intro O (And.intro OS R)); clear O OS R
  go_wp2
  have Q := (HOR.out.2.2.set 0 (.int .i64 wt)).set 1 (.slice AS s.length cs)
  have q0 := Q.cells 0 _ rfl
  have q1 := Q.cells 1 _ rfl
  have Q1 := own_low (own_low HOR.out.1 (k := w.heap.size) (by omega) 0 (.int .i64 wt)) (k := w.heap.size) (by omega) 1 (.slice AS s.length cs)
  have Q2 := own_low (own_low HOR.out.2.1 (k := w.heap.size) (by omega) 0 (.int .i64 wt)) (k := w.heap.size) (by omega) 1 (.slice AS s.length cs)
  exact bodyPost_ret (v := .tuple #[.slice P L.length cp, .agg #[.int .i64 wt, .slice AS s.length cs]]) (by simp [results, Try.results33, go_sem, q0, q1]) rfl ⟨L, _, cp, wt, AS, cs, s, hl, hs, rfl, own_base Q1 (by omega), hln, own_base Q2 (by omega), below_set (below_set HBW (Nat.le_refl _) _ _) (Nat.le_refl _) _ _⟩
set_option maxHeartbeats 1600000 in
theorem drawMass (A : Option Addr) (cap : Nat) (zs : List Int) (w : World) (h : Draw.Src w A zs) : Calls Try.prog 31 #[.slice A zs.length cap] w (DQ w) := by
  have h1 := h.below (al (Below.refl _ w) (o := .cells #[.int .i64 0, .slice none 0 0] 27))
  have R0 := Cb.new w [.int .i64 0, .slice none 0 0] 27 (g := w.heap.size) rfl
  have S0 := size_alloc' w (.cells #[.int .i64 0, .slice none 0 0] 27)
  have B0 := al (Below.refl _ w) (o := .cells #[.int .i64 0, .slice none 0 0] 27)
  have H0 := Lib.hid (And.intro h1 (And.intro R0 (And.intro S0 B0))); clear h1 R0 S0 B0 h
  go_enter Try.func31, Try.ntmps31
  go_wp2_with fail
  refine (drawLiq A cap zs _ H0.out.1).mono ?_
  rintro e V ⟨L, P, cp, wt, AS, cs, s, hl, hs, rfl, O, hln, OS, HB⟩
  have HBW := H0.out.2.2.2.trans (HB.mono (by rw [H0.out.2.2.1]; omega))
  have R := H0.out.2.1.more HB
  rw [H0.out.2.2.1] at O OS
  clear H0 HB
  have b0 := R.free 0 (by simp)
  have b1 := R.free 1 (by simp)
  have a0 := R.cells 0 _ rfl
  have a1 := R.cells 1 _ rfl
  have HOR := Lib.hid (And.intro O (And.intro OS R)); clear O OS R
  go_wp2
  have Q := (HOR.out.2.2.set 0 (.int .i64 wt)).set 1 (.slice AS s.length cs)
  have q0 := Q.cells 0 _ rfl
  have q1 := Q.cells 1 _ rfl
  have Q1 := own_low (own_low HOR.out.1 (k := w.heap.size) (by omega) 0 (.int .i64 wt)) (k := w.heap.size) (by omega) 1 (.slice AS s.length cs)
  have Q2 := own_low (own_low HOR.out.2.1 (k := w.heap.size) (by omega) 0 (.int .i64 wt)) (k := w.heap.size) (by omega) 1 (.slice AS s.length cs)
  exact bodyPost_ret (v := .tuple #[.slice P L.length cp, .agg #[.int .i64 wt, .slice AS s.length cs]]) (by simp [results, Try.results31, go_sem, q0, q1]) rfl ⟨L, _, cp, wt, AS, cs, s, hl, hs, rfl, own_base Q1 (by omega), hln, own_base Q2 (by omega), below_set (below_set HBW (Nat.le_refl _) _ _) (Nat.le_refl _) _ _⟩
set_option maxHeartbeats 1600000 in
theorem drawKeep (A : Option Addr) (cap : Nat) (zs : List Int) (w : World) (h : Draw.Src w A zs) : Calls Try.prog 36 #[.slice A zs.length cap] w (DX w) := by
  have h1 := h.below (al (Below.refl _ w) (o := .cells #[.int .i64 0, .slice none 0 0] 27))
  have R0 := Cb.new w [.int .i64 0, .slice none 0 0] 27 (g := w.heap.size) rfl
  have S0 := size_alloc' w (.cells #[.int .i64 0, .slice none 0 0] 27)
  have B0 := al (Below.refl _ w) (o := .cells #[.int .i64 0, .slice none 0 0] 27)
  have H0 := Lib.hid (And.intro h1 (And.intro R0 (And.intro S0 B0))); clear h1 R0 S0 B0 h
  go_enter Try.func36, Try.ntmps36
  go_wp2_with fail
  refine (drawFull A cap zs _ H0.out.1).mono ?_
  rintro e V ⟨L, P, cp, wt, AS, cs, s, ix, hl, hs, hx0, hx1, rfl, O, hln, OS, HB⟩
  have HBW := H0.out.2.2.2.trans (HB.mono (by rw [H0.out.2.2.1]; omega))
  have R := H0.out.2.1.more HB
  rw [H0.out.2.2.1] at O OS
  clear H0 HB
  have b0 := R.free 0 (by simp)
  have b1 := R.free 1 (by simp)
  have a0 := R.cells 0 _ rfl
  have a1 := R.cells 1 _ rfl
  have HOR := Lib.hid (And.intro O (And.intro OS R)); clear O OS R
  go_wp2
  have Q := (HOR.out.2.2.set 0 (.int .i64 wt)).set 1 (.slice AS s.length cs)
  have q0 := Q.cells 0 _ rfl
  have q1 := Q.cells 1 _ rfl
  have Q1 := own_low (own_low HOR.out.1 (k := w.heap.size) (by omega) 0 (.int .i64 wt)) (k := w.heap.size) (by omega) 1 (.slice AS s.length cs)
  have Q2 := own_low (own_low HOR.out.2.1 (k := w.heap.size) (by omega) 0 (.int .i64 wt)) (k := w.heap.size) (by omega) 1 (.slice AS s.length cs)
  exact bodyPost_ret (v := .tuple #[.slice P L.length cp, .agg #[.int .i64 wt, .slice AS s.length cs], .int .i64 ix]) (by simp [results, Try.results36, go_sem, q0, q1]) rfl ⟨L, _, cp, wt, AS, cs, s, ix, hl, hs, hx0, hx1, rfl, own_base Q1 (by omega), hln, own_base Q2 (by omega), below_set (below_set HBW (Nat.le_refl _) _ _) (Nat.le_refl _) _ _⟩
set_option maxHeartbeats 1600000 in
theorem drawPure (A : Option Addr) (cap : Nat) (zs : List Int) (w : World) (h : Draw.Src w A zs) : Calls Try.prog 39 #[.slice A zs.length cap] w (DX w) := by
  have h1 := h.below (al (Below.refl _ w) (o := .cells #[.int .i64 0, .slice none 0 0] 27))
  have R0 := Cb.new w [.int .i64 0, .slice none 0 0] 27 (g := w.heap.size) rfl
  have S0 := size_alloc' w (.cells #[.int .i64 0, .slice none 0 0] 27)
  have B0 := al (Below.refl _ w) (o := .cells #[.int .i64 0, .slice none 0 0] 27)
  have H0 := Lib.hid (And.intro h1 (And.intro R0 (And.intro S0 B0))); clear h1 R0 S0 B0 h
  go_enter Try.func39, Try.ntmps39
  go_wp2_with fail
  refine (drawFull A cap zs _ H0.out.1).mono ?_
  rintro e V ⟨L, P, cp, wt, AS, cs, s, ix, hl, hs, hx0, hx1, rfl, O, hln, OS, HB⟩
  have HBW := H0.out.2.2.2.trans (HB.mono (by rw [H0.out.2.2.1]; omega))
  have R := H0.out.2.1.more HB
  rw [H0.out.2.2.1] at O OS
  clear H0 HB
  have b0 := R.free 0 (by simp)
  have b1 := R.free 1 (by simp)
  have a0 := R.cells 0 _ rfl
  have a1 := R.cells 1 _ rfl
  have HOR := Lib.hid (And.intro O (And.intro OS R)); clear O OS R
  go_wp2
  have Q := (HOR.out.2.2.set 0 (.int .i64 wt)).set 1 (.slice AS s.length cs)
  have q0 := Q.cells 0 _ rfl
  have q1 := Q.cells 1 _ rfl
  have Q1 := own_low (own_low HOR.out.1 (k := w.heap.size) (by omega) 0 (.int .i64 wt)) (k := w.heap.size) (by omega) 1 (.slice AS s.length cs)
  have Q2 := own_low (own_low HOR.out.2.1 (k := w.heap.size) (by omega) 0 (.int .i64 wt)) (k := w.heap.size) (by omega) 1 (.slice AS s.length cs)
  exact bodyPost_ret (v := .tuple #[.slice P L.length cp, .agg #[.int .i64 wt, .slice AS s.length cs], .int .i64 ix]) (by simp [results, Try.results39, go_sem, q0, q1]) rfl ⟨L, _, cp, wt, AS, cs, s, ix, hl, hs, hx0, hx1, rfl, own_base Q1 (by omega), hln, own_base Q2 (by omega), below_set (below_set HBW (Nat.le_refl _) _ _) (Nat.le_refl _) _ _⟩
end Go.Proofs.Ythilbpklmjpmcaa.DCrys
