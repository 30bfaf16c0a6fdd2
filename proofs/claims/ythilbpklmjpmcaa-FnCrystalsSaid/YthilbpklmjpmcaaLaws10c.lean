/- The laws on FallOut and AfterDrying, walked. Made by tools/mk_law10c.py. -/
import Derived.Test.YthilbpklmjpmcaaLaws10a
import Derived.Test.YthilbpklmjpmcaaFallV
import Derived.Test.YthilbpklmjpmcaaLiqM
namespace Go.Proofs.Ythilbpklmjpmcaa.Laws10c
open Go.RowKit Go.Proofs.Ythilbpklmjpmcaa.Mem Go.Proofs.Ythilbpklmjpmcaa.Base Go.Proofs.Ythilbpklmjpmcaa.SInt Go.Proofs.Ythilbpklmjpmcaa.Regn Go.Proofs.Ythilbpklmjpmcaa.Boxes Go.Proofs.Ythilbpklmjpmcaa.Keep Go.Proofs.Ythilbpklmjpmcaa.Nest Go.Proofs.Ythilbpklmjpmcaa.KindP Go.Proofs.Ythilbpklmjpmcaa.KindG Go.Proofs.Ythilbpklmjpmcaa.LiqW Go.Proofs.Ythilbpklmjpmcaa.LiqP Go.Proofs.Ythilbpklmjpmcaa.LiqG Go.Proofs.Ythilbpklmjpmcaa.FallP Go.Proofs.Ythilbpklmjpmcaa.FallU
set_option linter.unusedVariables false
set_option linter.unusedSimpArgs false
set_option maxRecDepth 100000
abbrev Yes := Laws10a.Yes
/-- block g holds a liquor. -/
def Tb (g : Nat) (w : World) : Prop := ∃ cur fz, w.heap[g]? = some (.cells cur 27 fz)
theorem Tb.new (u : World) (cs : Array Value) : Tb u.heap.size (u.alloc (.cells cs 27)) := ⟨cs, (0, 0), by show (u.heap.push (.cells cs 27))[u.heap.size]? = _; exact Array.getElem?_push_size⟩
theorem Tb.keep {g : Nat} {w w' : World} (h : Tb g w) (hv : Below w.heap.size w w') : Tb g w' := by
  obtain ⟨c, fz, e⟩ := h
  exact ⟨c, fz, by rw [hv.block g (Array.getElem?_eq_some_iff.1 e).1]; exact e⟩
theorem row_ne {w : World} {base g : Nat} {r : Row} (h : RowOwn w base r) (T : Tb g w) : ∀ k, r.blk = some k → k ≠ g := by
  intro k hk
  rcases h.2 with ⟨hv, _⟩ | ⟨g', cap, cur, hv, hgb, hh, _⟩
  · unfold Row.blk at hk
    rw [hv] at hk
    simp [Value.ownBlock] at hk
  · unfold Row.blk at hk
    rw [hv] at hk
    have e : g' = k := by simpa [Value.ownBlock] using hk
    subst e
    rintro rfl
    obtain ⟨c, fz, ht⟩ := T
    rw [hh] at ht
    injection ht with ht
    injection ht with _ h2 _
    exact absurd h2 (by decide)
theorem row_tb2 {w : World} {base g : Nat} {r : Row} (h : RowOwn w base r) (T : Tb g w) (a b : Value) : RowOwn ((w.setCell ⟨g, 0, none⟩ a).setCell ⟨g, 1, none⟩ b) base r :=
  h.congr fun k hk => by
    have hne := row_ne h T k hk
    rw [Below.heap_setCell _ ⟨g, 1, none⟩ b k hne, Below.heap_setCell w ⟨g, 0, none⟩ a k hne]
theorem two_tb2 {w : World} {base g : Nat} {gs : List Nat} {r1 r2 : Row} (h : Two w base gs r1 r2) (T : Tb g w) (a b : Value) : Two ((w.setCell ⟨g, 0, none⟩ a).setCell ⟨g, 1, none⟩ b) base gs r1 r2 :=
  ⟨row_tb2 h.a T a b, row_tb2 h.b T a b, h.ne, h.fa, h.fb⟩
theorem rdl_far2 {w : World} {B g : Nat} {A : Option Addr} {xs : List Value} (h : RdL w B A xs) (hg : B ≤ g) (a b : Value) : RdL ((w.setCell ⟨g, 0, none⟩ a).setCell ⟨g, 1, none⟩ b) B A xs :=
  ⟨by rw [size_set', size_set']; exact h.1, h.2.below (((Below.refl B w).setCell (p := ⟨g, 0, none⟩) hg a).setCell (p := ⟨g, 1, none⟩) hg b) (Nat.le_refl _)⟩
theorem blk_same (A : Option Addr) (c : Nat) (l n : List Int) : Row.blk ⟨A, c, l⟩ = Row.blk ⟨A, c, n⟩ := by cases A <;> rfl
/-- one of two rows written in its place. -/
theorem two_mark {w u : World} {lo : Nat} {gs : List Nat} {A : Option Addr} {c : Nat} {ls ms : List Int} {r2 : Row} (h : Two w lo gs ⟨A, c, ls⟩ r2) (ho : RowOwn u lo ⟨A, c, ms⟩) (hg : w.grownBy u (Row.blk ⟨A, c, ls⟩)) : Two u lo gs ⟨A, c, ms⟩ r2 :=
  ⟨ho, h.b.congr fun k hk => hg.block k (h.b.lt k hk).2 (fun e => h.ne k e.symm hk), fun k hk => h.ne k (by rw [blk_same A c ls ms]; exact hk), fun k hk => h.fa k (by rw [blk_same A c ls ms]; exact hk), h.fb⟩
/-- rows that lie elsewhere than a row that is written. -/
theorem two_grown {w u : World} {lo : Nat} {gs : List Nat} {r1 r2 : Row} {row : Option Nat} (h : Two w lo gs r1 r2) (hg : w.grownBy u row) (hr : ∀ k, row = some k → k < lo) : Two u lo gs r1 r2 :=
  ⟨h.a.congr fun k hk => hg.block k (h.a.lt k hk).2 (fun e => by have := hr k e.symm; have := (h.a.lt k hk).1; omega),
   h.b.congr fun k hk => hg.block k (h.b.lt k hk).2 (fun e => by have := hr k e.symm; have := (h.b.lt k hk).1; omega), h.ne, h.fa, h.fb⟩
theorem row_grown {w u : World} {lo : Nat} {r : Row} {row : Option Nat} (h : RowOwn w lo r) (hg : w.grownBy u row) (hr : ∀ k, row = some k → r.blk ≠ some k) : RowOwn u lo r :=
  h.congr fun k hk => hg.block k (h.lt k hk).2 (fun e => hr k e.symm hk)
theorem aft_len {l : List SKind.R} {wt : Int} {s : List Int} {t : Int} : (aftS l wt s t).length ≤ 6 ∧ (aftG l wt s t).length ≤ 6 := by
  cases h : dryOk l wt s t
  · obtain ⟨_, e1, e2⟩ := aft_no h
    rw [e1, e2]; simp
  · obtain ⟨_, e1, e2⟩ := aft_yes h
    have := (dry_split h).1.n
    rw [e1, e2, stay_len, gone_len]
    omega
theorem blk_at {g c k : Nat} {ls : List Int} (h : Row.blk ⟨some ⟨g, 0, none⟩, c, ls⟩ = some k) : k = g := by
  have e : g = k := by simpa [Row.blk, Row.val, Value.ownBlock] using h
  exact e.symm
theorem row_marked {w : World} {lo : Nat} {A : Option Addr} {c : Nat} {k : Int} {n : Nat} (h : w.ownsRow lo 3 1 (.slice A n c) n (iv (SInt.marks k n))) : RowOwn w lo ⟨A, c, SInt.marks k n⟩ := by
  show w.ownsRow lo 3 1 (.slice A (SInt.marks k n).length c) (SInt.marks k n).length (iv (SInt.marks k n))
  rw [SInt.marks_len]
  exact h
theorem kmark1 (A : Option Addr) (c base : Nat) (l : List SKind.R) (w : World) (ho : w.ownsRow base 37 3 (.slice A l.length c) l.length (SKind.flat l)) (hn : l.length ≤ 1048576) :
    Calls Try.prog 49 #[.slice A l.length c, .int .i64 1] w fun e w' => e = .returned (.int .i64 ((1 + l.length * 3 : Nat) : Int)) ∧ w'.ownsRow base 37 3 (.slice A l.length c) l.length (SKind.flat (SKind.marks 1 l.length)) ∧ w.grownBy w' (Value.slice A l.length c).ownBlock :=
  SKind.markS_any A c base l 1 w ho (by omega) (by omega) (by omega)
set_option maxHeartbeats 8000000 in
theorem out_law (P : Option Addr) (cap : Nat) (l : List SKind.R) (wt : Int) (A : Option Addr) (s : List Int) (c : Nat) (w : World) (hr : Rd w w.heap.size P (SKind.flat l)) (hn : l.length ≤ maxLen) (hwf : ∀ x ∈ l, x.wf) (hs : Rd w w.heap.size A (iv s)) (hm : s.length ≤ maxLen) :
    Calls Try.prog 8 #[.slice P l.length cap, .agg #[.int .i64 wt, .slice A s.length c]] w (Yes w) := by
  have hz : ∀ x ∈ l, x.f0.size ≤ maxLen := fun x hx => (hwf x hx).1
  clear hwf
  have HN := Lib.hid (And.intro hn hm)
  clear hn hm
  have hsp := fun P cap A c w h => out_spec P cap l wt A c s w h
  have him := fun P cap A c w h => FallV.out_impl P cap l wt A c s w h
  have hml := aft_len (l := l) (wt := wt) (s := s) (t := 0)
  generalize aftW l wt s 0 = wv at hsp him
  generalize aftS l wt s 0 = M1 at hsp him hml
  generalize aftG l wt s 0 = M2 at hsp him hml
  generalize dryOk l wt s 0 = z at hsp him
  have HSP := Lib.hid hsp; clear hsp
  have HIM := Lib.hid him; clear him
  have HM := Lib.hid (show M1.length ≤ maxLen ∧ M2.length ≤ maxLen by unfold maxLen; omega)
  obtain ⟨hm1, hm2⟩ := hml
  go_enter Try.func8, Try.ntmps8
  go_wp2_with fail
  have B := Box.new (Below.refl _ w) [.int .i64 wt, .slice A s.length c] 54 (g := w.heap.size) rfl
  generalize (w.alloc (.cells #[.int .i64 wt, .slice A s.length c] 54)) = W1 at B ⊢
  have B_0 := B.cells 0 _ rfl
  have B_1 := B.cells 1 _ rfl
  have B_f0 := B.free 0 (by simp)
  have B_f1 := B.free 1 (by simp)
  have B_t := B.there
  go_wp2_with fail
  refine (SKind.szS_any P cap l 1048576 _ (rd_keep hr B.below) (by omega) (by omega) HN.out.1 hz).mono ?_
  rintro e v2 ⟨r, rfl, hrs, hv2⟩
  clear B_0 B_1 B_f0 B_f1 B_t
  replace B := B.more hv2
  have zhv2 := hv2.size
  clear hv2
  have B_0 := B.cells 0 _ rfl
  have B_1 := B.cells 1 _ rfl
  have B_f0 := B.free 0 (by simp)
  have B_f1 := B.free 1 (by simp)
  have B_t := B.there
  rcases hrs with rfl | ⟨hr0, hr1⟩
  · go_wp2
    go_ret
    exact ⟨rfl, B.below⟩
  have hl : l.length ≤ 1048576 := by omega
  have hrt : r ≤ 1048576 := by omega
  have B_0 := B.cells 0 _ rfl
  have B_1 := B.cells 1 _ rfl
  have B_f0 := B.free 0 (by simp)
  have B_f1 := B.free 1 (by simp)
  have B_t := B.there
  go_wp2_with fail
  refine (szL_any ⟨wt, ⟨A, c, s⟩⟩ r _ hr0 hrt HN.out.2).mono ?_
  rintro e v3 ⟨rfl, hv3⟩
  clear B_0 B_1 B_f0 B_f1 B_t
  replace B := B.more hv3
  have zhv3 := hv3.size
  clear hv3
  have B_0 := B.cells 0 _ rfl
  have B_1 := B.cells 1 _ rfl
  have B_f0 := B.free 0 (by simp)
  have B_f1 := B.free 1 (by simp)
  have B_t := B.there
  rcases szV_range (n := s.length) hr0 hrt with ⟨hb, _⟩ | ⟨hb0, hb1, hb2⟩
  · rw [hb]
    go_wp2
    go_ret
    exact ⟨rfl, B.below⟩
  · have hsl : s.length ≤ 1048576 := by omega
    obtain ⟨rr, hrr⟩ : ∃ v, szV r s.length = v := ⟨_, rfl⟩
    rw [hrr] at hb0 hb1 ⊢
    clear hrr hb1 hb2
    have HLEN := Lib.hid (And.intro hr1 hrt); clear hr1 hrt
    go_wp2
    clear B_0 B_1 B_f0 B_f1 B_t
    refine wp_region_rel [31, 32, 33, 34, 35, 30, 36, 37, 38, 6, 7, 8] (fun L f w' => (Box (w.heap.size) [.int .i64 wt, .slice A s.length c] w w') ∧ (L 0 → f 31 = .slice P l.length cap) ∧ (L 1 → ¬ L 10 → ∃ g, f 32 = .slice (some ⟨g, 0, none⟩) l.length l.length ∧ w'.ownsRow w.heap.size 37 3 (.slice (some ⟨g, 0, none⟩) l.length l.length) l.length (SKind.flat l)) ∧ (L 2 → f 33 = .agg #[.int .i64 wt, .slice A s.length c]) ∧ (L 3 → ¬ L 10 → ∃ g, f 34 = .agg #[.int .i64 wt, .slice (some ⟨g, 0, none⟩) s.length s.length] ∧ RowOwn w' w.heap.size ⟨some ⟨g, 0, none⟩, s.length, s⟩) ∧ (L 4 → ∃ A8 q8 A9 q9, f 35 = .tuple #[.agg #[.int .i64 wv, .slice A8 M1.length q8], .slice A9 M2.length q9, .bool z] ∧ RowOwn w' w.heap.size ⟨A8, q8, M1⟩ ∧ RowOwn w' w.heap.size ⟨A9, q9, M2⟩) ∧ (L 5 → ∃ A8 q8 A9 q9, f 30 = .tuple #[.agg #[.int .i64 wv, .slice A8 M1.length q8], .slice A9 M2.length q9, .bool z] ∧ RowOwn w' w.heap.size ⟨A8, q8, M1⟩ ∧ RowOwn w' w.heap.size ⟨A9, q9, M2⟩) ∧ (L 6 → ∃ A8 q8, f 36 = .agg #[.int .i64 wv, .slice A8 M1.length q8] ∧ RowOwn w' w.heap.size ⟨A8, q8, M1⟩) ∧ (L 7 → ∃ A9 q9, f 37 = .slice A9 M2.length q9 ∧ RowOwn w' w.heap.size ⟨A9, q9, M2⟩) ∧ (L 8 → f 38 = .bool z) ∧ (L 9 → ¬ L 10 → ∃ g, f 6 = .pointer (some ⟨g, 0, none⟩) ∧ g ≠ w.heap.size ∧ Tb g w' ∧ Box g [.int .i64 0, .slice none 0 0] w w') ∧ (L 10 → ∃ g A8 q8, f 6 = .pointer (some ⟨g, 0, none⟩) ∧ Box g [.int .i64 wv, .slice A8 M1.length q8] w w' ∧ RowOwn w' w.heap.size ⟨A8, q8, M1⟩) ∧ (L 11 → ∃ A9 q9, f 7 = .slice A9 M2.length q9 ∧ RowOwn w' w.heap.size ⟨A9, q9, M2⟩) ∧ (L 12 → f 8 = .bool z)) (by kernel_rfl) (by kernel_rfl) (by kernel_rfl) (fun f => ⟨B.drew, fun h => h.elim, fun h => h.elim, fun h => h.elim, fun h => h.elim, fun h => h.elim, fun h => h.elim, fun h => h.elim, fun h => h.elim, fun h => h.elim, fun h => h.elim, fun h => h.elim, fun h => h.elim, fun h => h.elim⟩) ?_ ?_
    · apply RelH.op2
      · intro L f u K hN hS hK
        simp only [puts, Act.put, List.setIfInBounds_toArray, List.set_cons_zero, List.set_cons_succ, upd, Nat.reduceEqDiff, ↓reduceIte, if_true, if_false] at hK ⊢
        have HS9 := Lib.hid hS
        obtain ⟨qB, c0, c1, c2, c3, c4, c5, c6, c7, c8, c9, c10, c11, c12⟩ := hS
        clear c0 c1 c2 c3 c4 c5 c6 c7 c8 c9 c10 c11 c12
        go_simp
        obtain ⟨qB, c0, c1, c2, c3, c4, c5, c6, c7, c8, c9, c10, c11, c12⟩ := HS9.out
        exact hK.out _ _ ⟨qB, fun _ => rfl, fun h t0 => c1 (h.resolve_right (by decide)) (fun z => t0 (.inl z)), fun h => c2 (h.resolve_right (by decide)), fun h t0 => c3 (h.resolve_right (by decide)) (fun z => t0 (.inl z)), fun h => c4 (h.resolve_right (by decide)), fun h => c5 (h.resolve_right (by decide)), fun h => c6 (h.resolve_right (by decide)), fun h => c7 (h.resolve_right (by decide)), fun h => c8 (h.resolve_right (by decide)), fun h t0 => c9 (h.resolve_right (by decide)) (fun z => t0 (.inl z)), fun h => c10 (h.resolve_right (by decide)), fun h => c11 (h.resolve_right (by decide)), fun h => c12 (h.resolve_right (by decide))⟩ _ rfl
      apply RelH.op2
      · intro L f u K hN hS hK
        simp only [puts, Act.put, List.setIfInBounds_toArray, List.set_cons_zero, List.set_cons_succ, upd, Nat.reduceEqDiff, ↓reduceIte, if_true, if_false] at hK ⊢
        have HS9 := Lib.hid hS
        obtain ⟨qB, c0, c1, c2, c3, c4, c5, c6, c7, c8, c9, c10, c11, c12⟩ := hS
        have e0 := c0 (hN.out.2 0 (by decide +kernel))
        have HCON := Lib.hid (SKind.toS_any P cap l u (rd_keep hr qB.below) hl)
        clear c0 c1 c2 c3 c4 c5 c6 c7 c8 c9 c10 c11 c12
        go_simp
        go_at_call 43
        (with_reducible refine HCON.out.mono ?_)
        rintro e uw1 ⟨rfl, ho, hv⟩
        go_wp2_with fail
        obtain ⟨qB, c0, c1, c2, c3, c4, c5, c6, c7, c8, c9, c10, c11, c12⟩ := HS9.out
        exact hK.out _ _ ⟨qB.more hv, fun h => c0 (h.resolve_right (by decide)), fun _ _ => ⟨_, rfl, own_base ho qB.below.size⟩, fun h => c2 (h.resolve_right (by decide)), fun h t0 => (let ⟨g, e, O⟩ := (c3 (h.resolve_right (by decide)) (fun z => t0 (.inl z))); ⟨g, e, O.keep hv⟩), fun h => (let ⟨A8, q8, A9, q9, e, O8, O9⟩ := (c4 (h.resolve_right (by decide))); ⟨A8, q8, A9, q9, e, O8.keep hv, O9.keep hv⟩), fun h => (let ⟨A8, q8, A9, q9, e, O8, O9⟩ := (c5 (h.resolve_right (by decide))); ⟨A8, q8, A9, q9, e, O8.keep hv, O9.keep hv⟩), fun h => (let ⟨A8, q8, e, O8⟩ := (c6 (h.resolve_right (by decide))); ⟨A8, q8, e, O8.keep hv⟩), fun h => (let ⟨A8, q8, e, O8⟩ := (c7 (h.resolve_right (by decide))); ⟨A8, q8, e, O8.keep hv⟩), fun h => c8 (h.resolve_right (by decide)), fun h t0 => (let ⟨g, e, hne, TY, X⟩ := (c9 (h.resolve_right (by decide)) (fun z => t0 (.inl z))); ⟨g, e, hne, TY.keep hv, X.more hv⟩), fun h => (let ⟨g, A8, q8, e, X, O8⟩ := (c10 (h.resolve_right (by decide))); ⟨g, A8, q8, e, X.more hv, O8.keep hv⟩), fun h => (let ⟨A8, q8, e, O8⟩ := (c11 (h.resolve_right (by decide))); ⟨A8, q8, e, O8.keep hv⟩), fun h => c12 (h.resolve_right (by decide))⟩ _ (by simp only [e0])
      apply RelH.op2
      · intro L f u K hN hS hK
        simp only [puts, Act.put, List.setIfInBounds_toArray, List.set_cons_zero, List.set_cons_succ, upd, Nat.reduceEqDiff, ↓reduceIte, if_true, if_false] at hK ⊢
        have HS9 := Lib.hid hS
        obtain ⟨qB, c0, c1, c2, c3, c4, c5, c6, c7, c8, c9, c10, c11, c12⟩ := hS
        have qB_0 := qB.cells 0 _ rfl
        have qB_1 := qB.cells 1 _ rfl
        clear c0 c1 c2 c3 c4 c5 c6 c7 c8 c9 c10 c11 c12
        go_simp
        obtain ⟨qB, c0, c1, c2, c3, c4, c5, c6, c7, c8, c9, c10, c11, c12⟩ := HS9.out
        exact hK.out _ _ ⟨qB, fun h => c0 (h.resolve_right (by decide)), fun h t0 => c1 (h.resolve_right (by decide)) (fun z => t0 (.inl z)), fun _ => rfl, fun h t0 => c3 (h.resolve_right (by decide)) (fun z => t0 (.inl z)), fun h => c4 (h.resolve_right (by decide)), fun h => c5 (h.resolve_right (by decide)), fun h => c6 (h.resolve_right (by decide)), fun h => c7 (h.resolve_right (by decide)), fun h => c8 (h.resolve_right (by decide)), fun h t0 => c9 (h.resolve_right (by decide)) (fun z => t0 (.inl z)), fun h => c10 (h.resolve_right (by decide)), fun h => c11 (h.resolve_right (by decide)), fun h => c12 (h.resolve_right (by decide))⟩ _ rfl
      apply RelH.op2
      · intro L f u K hN hS hK
        simp only [puts, Act.put, List.setIfInBounds_toArray, List.set_cons_zero, List.set_cons_succ, upd, Nat.reduceEqDiff, ↓reduceIte, if_true, if_false] at hK ⊢
        have HS9 := Lib.hid hS
        obtain ⟨qB, c0, c1, c2, c3, c4, c5, c6, c7, c8, c9, c10, c11, c12⟩ := hS
        have e2 := c2 (hN.out.2 2 (by decide +kernel))
        have HCON := Lib.hid (to_at ⟨wt, ⟨A, c, s⟩⟩ u (rd_keep hs qB.below) hsl)
        clear c0 c1 c2 c3 c4 c5 c6 c7 c8 c9 c10 c11 c12
        go_simp
        go_at_call 46
        (with_reducible refine HCON.out.mono ?_)
        rintro e uw1 ⟨rfl, ho, hv⟩
        go_wp2_with fail
        obtain ⟨qB, c0, c1, c2, c3, c4, c5, c6, c7, c8, c9, c10, c11, c12⟩ := HS9.out
        exact hK.out _ _ ⟨qB.more hv, fun h => c0 (h.resolve_right (by decide)), fun h t0 => (let ⟨g, e, O⟩ := (c1 (h.resolve_right (by decide)) (fun z => t0 (.inl z))); ⟨g, e, own_keep O hv⟩), fun h => c2 (h.resolve_right (by decide)), fun _ _ => ⟨_, rfl, ho.base qB.below.size⟩, fun h => (let ⟨A8, q8, A9, q9, e, O8, O9⟩ := (c4 (h.resolve_right (by decide))); ⟨A8, q8, A9, q9, e, O8.keep hv, O9.keep hv⟩), fun h => (let ⟨A8, q8, A9, q9, e, O8, O9⟩ := (c5 (h.resolve_right (by decide))); ⟨A8, q8, A9, q9, e, O8.keep hv, O9.keep hv⟩), fun h => (let ⟨A8, q8, e, O8⟩ := (c6 (h.resolve_right (by decide))); ⟨A8, q8, e, O8.keep hv⟩), fun h => (let ⟨A8, q8, e, O8⟩ := (c7 (h.resolve_right (by decide))); ⟨A8, q8, e, O8.keep hv⟩), fun h => c8 (h.resolve_right (by decide)), fun h t0 => (let ⟨g, e, hne, TY, X⟩ := (c9 (h.resolve_right (by decide)) (fun z => t0 (.inl z))); ⟨g, e, hne, TY.keep hv, X.more hv⟩), fun h => (let ⟨g, A8, q8, e, X, O8⟩ := (c10 (h.resolve_right (by decide))); ⟨g, A8, q8, e, X.more hv, O8.keep hv⟩), fun h => (let ⟨A8, q8, e, O8⟩ := (c11 (h.resolve_right (by decide))); ⟨A8, q8, e, O8.keep hv⟩), fun h => c12 (h.resolve_right (by decide))⟩ _ (by simp only [e2])
      apply RelH.op2
      · intro L f u K hN hS hK
        simp only [puts, Act.put, List.setIfInBounds_toArray, List.set_cons_zero, List.set_cons_succ, upd, Nat.reduceEqDiff, ↓reduceIte, if_true, if_false] at hK ⊢
        have HS9 := Lib.hid hS
        obtain ⟨qB, c0, c1, c2, c3, c4, c5, c6, c7, c8, c9, c10, c11, c12⟩ := hS
        obtain ⟨g, e1, O⟩ := c1 (hN.out.2 1 (by decide +kernel)) (hN.out.1 10 (by decide +kernel))
        obtain ⟨g2, e3, O2⟩ := c3 (hN.out.2 3 (by decide +kernel)) (hN.out.1 10 (by decide +kernel))
        have HCON := Lib.hid (HSP.out (some ⟨g, 0, none⟩) l.length (some ⟨g2, 0, none⟩) s.length u ⟨Rd.of_own O, hl, hz, O2.rd, hsl⟩)
        clear c0 c1 c2 c3 c4 c5 c6 c7 c8 c9 c10 c11 c12
        go_simp
        go_at_call 17
        (with_reducible refine HCON.out.mono ?_)
        rintro e uw1 ⟨A8, q8, A9, q9, rfl, T, hv⟩
        go_wp2_with fail
        obtain ⟨qB, c0, c1, c2, c3, c4, c5, c6, c7, c8, c9, c10, c11, c12⟩ := HS9.out
        exact hK.out _ _ ⟨qB.more hv, fun h => c0 (h.resolve_right (by decide)), fun h t0 => (let ⟨g, e, O⟩ := (c1 (h.resolve_right (by decide)) (fun z => t0 (.inl z))); ⟨g, e, own_keep O hv⟩), fun h => c2 (h.resolve_right (by decide)), fun h t0 => (let ⟨g, e, O⟩ := (c3 (h.resolve_right (by decide)) (fun z => t0 (.inl z))); ⟨g, e, O.keep hv⟩), fun _ => ⟨A8, q8, A9, q9, rfl, T.a.base qB.below.size, T.b.base qB.below.size⟩, fun h => (let ⟨A8, q8, A9, q9, e, O8, O9⟩ := (c5 (h.resolve_right (by decide))); ⟨A8, q8, A9, q9, e, O8.keep hv, O9.keep hv⟩), fun h => (let ⟨A8, q8, e, O8⟩ := (c6 (h.resolve_right (by decide))); ⟨A8, q8, e, O8.keep hv⟩), fun h => (let ⟨A8, q8, e, O8⟩ := (c7 (h.resolve_right (by decide))); ⟨A8, q8, e, O8.keep hv⟩), fun h => c8 (h.resolve_right (by decide)), fun h t0 => (let ⟨g, e, hne, TY, X⟩ := (c9 (h.resolve_right (by decide)) (fun z => t0 (.inl z))); ⟨g, e, hne, TY.keep hv, X.more hv⟩), fun h => (let ⟨g, A8, q8, e, X, O8⟩ := (c10 (h.resolve_right (by decide))); ⟨g, A8, q8, e, X.more hv, O8.keep hv⟩), fun h => (let ⟨A8, q8, e, O8⟩ := (c11 (h.resolve_right (by decide))); ⟨A8, q8, e, O8.keep hv⟩), fun h => c12 (h.resolve_right (by decide))⟩ _ (by simp only [e1, e3])
      apply RelH.op2
      · intro L f u K hN hS hK
        simp only [puts, Act.put, List.setIfInBounds_toArray, List.set_cons_zero, List.set_cons_succ, upd, Nat.reduceEqDiff, ↓reduceIte, if_true, if_false] at hK ⊢
        have HS9 := Lib.hid hS
        obtain ⟨qB, c0, c1, c2, c3, c4, c5, c6, c7, c8, c9, c10, c11, c12⟩ := hS
        obtain ⟨A8, q8, A9, q9, e4, O8, O9⟩ := c4 (hN.out.2 4 (by decide +kernel))
        clear c0 c1 c2 c3 c4 c5 c6 c7 c8 c9 c10 c11 c12
        go_simp
        obtain ⟨qB, c0, c1, c2, c3, c4, c5, c6, c7, c8, c9, c10, c11, c12⟩ := HS9.out
        exact hK.out _ _ ⟨qB, fun h => c0 (h.resolve_right (by decide)), fun h t0 => c1 (h.resolve_right (by decide)) (fun z => t0 (.inl z)), fun h => c2 (h.resolve_right (by decide)), fun h t0 => c3 (h.resolve_right (by decide)) (fun z => t0 (.inl z)), fun h => c4 (h.resolve_right (by decide)), fun _ => ⟨A8, q8, A9, q9, rfl, O8, O9⟩, fun h => c6 (h.resolve_right (by decide)), fun h => c7 (h.resolve_right (by decide)), fun h => c8 (h.resolve_right (by decide)), fun h t0 => c9 (h.resolve_right (by decide)) (fun z => t0 (.inl z)), fun h => c10 (h.resolve_right (by decide)), fun h => c11 (h.resolve_right (by decide)), fun h => c12 (h.resolve_right (by decide))⟩ _ (by simp only [e4])
      apply RelH.op2
      · intro L f u K hN hS hK
        simp only [puts, Act.put, List.setIfInBounds_toArray, List.set_cons_zero, List.set_cons_succ, upd, Nat.reduceEqDiff, ↓reduceIte, if_true, if_false] at hK ⊢
        have HS9 := Lib.hid hS
        obtain ⟨qB, c0, c1, c2, c3, c4, c5, c6, c7, c8, c9, c10, c11, c12⟩ := hS
        obtain ⟨A8, q8, A9, q9, e5, O8, O9⟩ := c5 (hN.out.2 5 (by decide +kernel))
        clear c0 c1 c2 c3 c4 c5 c6 c7 c8 c9 c10 c11 c12
        go_simp
        obtain ⟨qB, c0, c1, c2, c3, c4, c5, c6, c7, c8, c9, c10, c11, c12⟩ := HS9.out
        exact hK.out _ _ ⟨qB, fun h => c0 (h.resolve_right (by decide)), fun h t0 => c1 (h.resolve_right (by decide)) (fun z => t0 (.inl z)), fun h => c2 (h.resolve_right (by decide)), fun h t0 => c3 (h.resolve_right (by decide)) (fun z => t0 (.inl z)), fun h => c4 (h.resolve_right (by decide)), fun h => c5 (h.resolve_right (by decide)), fun _ => ⟨A8, q8, rfl, O8⟩, fun h => c7 (h.resolve_right (by decide)), fun h => c8 (h.resolve_right (by decide)), fun h t0 => c9 (h.resolve_right (by decide)) (fun z => t0 (.inl z)), fun h => c10 (h.resolve_right (by decide)), fun h => c11 (h.resolve_right (by decide)), fun h => c12 (h.resolve_right (by decide))⟩ _ (by simp only [e5])
      apply RelH.op2
      · intro L f u K hN hS hK
        simp only [puts, Act.put, List.setIfInBounds_toArray, List.set_cons_zero, List.set_cons_succ, upd, Nat.reduceEqDiff, ↓reduceIte, if_true, if_false] at hK ⊢
        have HS9 := Lib.hid hS
        obtain ⟨qB, c0, c1, c2, c3, c4, c5, c6, c7, c8, c9, c10, c11, c12⟩ := hS
        obtain ⟨A8, q8, A9, q9, e5, O8, O9⟩ := c5 (hN.out.2 5 (by decide +kernel))
        clear c0 c1 c2 c3 c4 c5 c6 c7 c8 c9 c10 c11 c12
        go_simp
        obtain ⟨qB, c0, c1, c2, c3, c4, c5, c6, c7, c8, c9, c10, c11, c12⟩ := HS9.out
        exact hK.out _ _ ⟨qB, fun h => c0 (h.resolve_right (by decide)), fun h t0 => c1 (h.resolve_right (by decide)) (fun z => t0 (.inl z)), fun h => c2 (h.resolve_right (by decide)), fun h t0 => c3 (h.resolve_right (by decide)) (fun z => t0 (.inl z)), fun h => c4 (h.resolve_right (by decide)), fun h => c5 (h.resolve_right (by decide)), fun h => c6 (h.resolve_right (by decide)), fun _ => ⟨A9, q9, rfl, O9⟩, fun h => c8 (h.resolve_right (by decide)), fun h t0 => c9 (h.resolve_right (by decide)) (fun z => t0 (.inl z)), fun h => c10 (h.resolve_right (by decide)), fun h => c11 (h.resolve_right (by decide)), fun h => c12 (h.resolve_right (by decide))⟩ _ (by simp only [e5])
      apply RelH.op2
      · intro L f u K hN hS hK
        simp only [puts, Act.put, List.setIfInBounds_toArray, List.set_cons_zero, List.set_cons_succ, upd, Nat.reduceEqDiff, ↓reduceIte, if_true, if_false] at hK ⊢
        have HS9 := Lib.hid hS
        obtain ⟨qB, c0, c1, c2, c3, c4, c5, c6, c7, c8, c9, c10, c11, c12⟩ := hS
        obtain ⟨A8, q8, A9, q9, e5, O8, O9⟩ := c5 (hN.out.2 5 (by decide +kernel))
        clear c0 c1 c2 c3 c4 c5 c6 c7 c8 c9 c10 c11 c12
        go_simp
        obtain ⟨qB, c0, c1, c2, c3, c4, c5, c6, c7, c8, c9, c10, c11, c12⟩ := HS9.out
        exact hK.out _ _ ⟨qB, fun h => c0 (h.resolve_right (by decide)), fun h t0 => c1 (h.resolve_right (by decide)) (fun z => t0 (.inl z)), fun h => c2 (h.resolve_right (by decide)), fun h t0 => c3 (h.resolve_right (by decide)) (fun z => t0 (.inl z)), fun h => c4 (h.resolve_right (by decide)), fun h => c5 (h.resolve_right (by decide)), fun h => c6 (h.resolve_right (by decide)), fun h => c7 (h.resolve_right (by decide)), fun _ => rfl, fun h t0 => c9 (h.resolve_right (by decide)) (fun z => t0 (.inl z)), fun h => c10 (h.resolve_right (by decide)), fun h => c11 (h.resolve_right (by decide)), fun h => c12 (h.resolve_right (by decide))⟩ _ (by simp only [e5])
      apply RelH.op2
      · intro L f u K hN hS hK
        simp only [puts, Act.put, List.setIfInBounds_toArray, List.set_cons_zero, List.set_cons_succ, upd, Nat.reduceEqDiff, ↓reduceIte, if_true, if_false] at hK ⊢
        have HS9 := Lib.hid hS
        obtain ⟨qB, c0, c1, c2, c3, c4, c5, c6, c7, c8, c9, c10, c11, c12⟩ := hS
        have hv : Below u.heap.size u (u.alloc (.cells #[.int .i64 0, .slice none 0 0] 27)) := al (Below.refl _ _)
        have hX := Box.new qB.below [.int .i64 0, .slice none 0 0] 27 (g := u.heap.size) rfl
        have hTB := Tb.new u #[.int .i64 0, .slice none 0 0]
        have hne : u.heap.size ≠ w.heap.size := by have := qB.there; omega
        clear c0 c1 c2 c3 c4 c5 c6 c7 c8 c9 c10 c11 c12
        go_simp
        obtain ⟨qB, c0, c1, c2, c3, c4, c5, c6, c7, c8, c9, c10, c11, c12⟩ := HS9.out
        exact hK.out _ _ ⟨qB.more hv, fun h => c0 (h.resolve_right (by decide)), fun h t0 => (let ⟨g, e, O⟩ := (c1 (h.resolve_right (by decide)) (fun z => t0 (.inl z))); ⟨g, e, own_keep O hv⟩), fun h => c2 (h.resolve_right (by decide)), fun h t0 => (let ⟨g, e, O⟩ := (c3 (h.resolve_right (by decide)) (fun z => t0 (.inl z))); ⟨g, e, O.keep hv⟩), fun h => (let ⟨A8, q8, A9, q9, e, O8, O9⟩ := (c4 (h.resolve_right (by decide))); ⟨A8, q8, A9, q9, e, O8.keep hv, O9.keep hv⟩), fun h => (let ⟨A8, q8, A9, q9, e, O8, O9⟩ := (c5 (h.resolve_right (by decide))); ⟨A8, q8, A9, q9, e, O8.keep hv, O9.keep hv⟩), fun h => (let ⟨A8, q8, e, O8⟩ := (c6 (h.resolve_right (by decide))); ⟨A8, q8, e, O8.keep hv⟩), fun h => (let ⟨A8, q8, e, O8⟩ := (c7 (h.resolve_right (by decide))); ⟨A8, q8, e, O8.keep hv⟩), fun h => c8 (h.resolve_right (by decide)), fun _ _ => ⟨_, rfl, hne, hTB, hX⟩, fun h => absurd (h.resolve_right (by decide)) (hN.out.1 10 (by decide +kernel)), fun h => (let ⟨A8, q8, e, O8⟩ := (c11 (h.resolve_right (by decide))); ⟨A8, q8, e, O8.keep hv⟩), fun h => c12 (h.resolve_right (by decide))⟩ _ rfl
      apply RelH.op2
      · intro L f u K hN hS hK
        simp only [puts, Act.put, List.setIfInBounds_toArray, List.set_cons_zero, List.set_cons_succ, upd, Nat.reduceEqDiff, ↓reduceIte, if_true, if_false] at hK ⊢
        have HS9 := Lib.hid hS
        obtain ⟨qB, c0, c1, c2, c3, c4, c5, c6, c7, c8, c9, c10, c11, c12⟩ := hS
        obtain ⟨g, e9, hne, TY, X⟩ := c9 (hN.out.2 9 (by decide +kernel)) (hN.out.1 10 (by decide +kernel))
        obtain ⟨A8, q8, e6, O8⟩ := c6 (hN.out.2 6 (by decide +kernel))
        have X_0 := X.cells 0 _ rfl
        have X_1 := X.cells 1 _ rfl
        have X_f0 := X.free 0 (by simp)
        have X_f1 := X.free 1 (by simp)
        clear c0 c1 c2 c3 c4 c5 c6 c7 c8 c9 c10 c11 c12
        go_simp
        obtain ⟨qB, c0, c1, c2, c3, c4, c5, c6, c7, c8, c9, c10, c11, c12⟩ := HS9.out
        exact hK.out undef _ ⟨(qB.far X.base hne 0 _).far X.base hne 1 _, fun h => c0 (h.resolve_right (by decide)), fun h t0 => (t0 (by simp)).elim, fun h => c2 (h.resolve_right (by decide)), fun h t0 => (t0 (by simp)).elim, fun h => (let ⟨A8, q8, A9, q9, e, O8, O9⟩ := (c4 (h.resolve_right (by decide))); ⟨A8, q8, A9, q9, e, row_tb2 O8 TY _ _, row_tb2 O9 TY _ _⟩), fun h => (let ⟨A8, q8, A9, q9, e, O8, O9⟩ := (c5 (h.resolve_right (by decide))); ⟨A8, q8, A9, q9, e, row_tb2 O8 TY _ _, row_tb2 O9 TY _ _⟩), fun h => (let ⟨A8, q8, e, O8⟩ := (c6 (h.resolve_right (by decide))); ⟨A8, q8, e, row_tb2 O8 TY _ _⟩), fun h => (let ⟨A8, q8, e, O8⟩ := (c7 (h.resolve_right (by decide))); ⟨A8, q8, e, row_tb2 O8 TY _ _⟩), fun h => c8 (h.resolve_right (by decide)), fun h t0 => (t0 (by simp)).elim, fun _ => ⟨g, A8, q8, e9, (X.set 0 (.int .i64 wv)).set 1 (.slice A8 M1.length q8), row_tb2 O8 TY _ _⟩, fun h => (let ⟨A8, q8, e, O8⟩ := (c11 (h.resolve_right (by decide))); ⟨A8, q8, e, row_tb2 O8 TY _ _⟩), fun h => c12 (h.resolve_right (by decide))⟩ _ (by simp only [e9, e6])
      apply RelH.op2
      · intro L f u K hN hS hK
        simp only [puts, Act.put, List.setIfInBounds_toArray, List.set_cons_zero, List.set_cons_succ, upd, Nat.reduceEqDiff, ↓reduceIte, if_true, if_false] at hK ⊢
        have HS9 := Lib.hid hS
        obtain ⟨qB, c0, c1, c2, c3, c4, c5, c6, c7, c8, c9, c10, c11, c12⟩ := hS
        obtain ⟨A9, q9, e7, O9⟩ := c7 (hN.out.2 7 (by decide +kernel))
        clear c0 c1 c2 c3 c4 c5 c6 c7 c8 c9 c10 c11 c12
        go_simp
        obtain ⟨qB, c0, c1, c2, c3, c4, c5, c6, c7, c8, c9, c10, c11, c12⟩ := HS9.out
        exact hK.out _ _ ⟨qB, fun h => c0 (h.resolve_right (by decide)), fun h t0 => c1 (h.resolve_right (by decide)) (fun z => t0 (.inl z)), fun h => c2 (h.resolve_right (by decide)), fun h t0 => c3 (h.resolve_right (by decide)) (fun z => t0 (.inl z)), fun h => c4 (h.resolve_right (by decide)), fun h => c5 (h.resolve_right (by decide)), fun h => c6 (h.resolve_right (by decide)), fun h => c7 (h.resolve_right (by decide)), fun h => c8 (h.resolve_right (by decide)), fun h t0 => c9 (h.resolve_right (by decide)) (fun z => t0 (.inl z)), fun h => c10 (h.resolve_right (by decide)), fun _ => ⟨A9, q9, rfl, O9⟩, fun h => c12 (h.resolve_right (by decide))⟩ _ (by simp only [e7])
      apply RelH.op2
      · intro L f u K hN hS hK
        simp only [puts, Act.put, List.setIfInBounds_toArray, List.set_cons_zero, List.set_cons_succ, upd, Nat.reduceEqDiff, ↓reduceIte, if_true, if_false] at hK ⊢
        have HS9 := Lib.hid hS
        obtain ⟨qB, c0, c1, c2, c3, c4, c5, c6, c7, c8, c9, c10, c11, c12⟩ := hS
        have e8 := c8 (hN.out.2 8 (by decide +kernel))
        clear c0 c1 c2 c3 c4 c5 c6 c7 c8 c9 c10 c11 c12
        go_simp
        obtain ⟨qB, c0, c1, c2, c3, c4, c5, c6, c7, c8, c9, c10, c11, c12⟩ := HS9.out
        exact hK.out _ _ ⟨qB, fun h => c0 (h.resolve_right (by decide)), fun h t0 => c1 (h.resolve_right (by decide)) (fun z => t0 (.inl z)), fun h => c2 (h.resolve_right (by decide)), fun h t0 => c3 (h.resolve_right (by decide)) (fun z => t0 (.inl z)), fun h => c4 (h.resolve_right (by decide)), fun h => c5 (h.resolve_right (by decide)), fun h => c6 (h.resolve_right (by decide)), fun h => c7 (h.resolve_right (by decide)), fun h => c8 (h.resolve_right (by decide)), fun h t0 => c9 (h.resolve_right (by decide)) (fun z => t0 (.inl z)), fun h => c10 (h.resolve_right (by decide)), fun h => c11 (h.resolve_right (by decide)), fun _ => rfl⟩ _ (by simp only [e8])
      exact RelH.done
    intro L f V0 hL hS
    simp only [puts, Act.put, List.setIfInBounds_toArray, List.set_cons_zero, List.set_cons_succ]
    obtain ⟨qB, c0, c1, c2, c3, c4, c5, c6, c7, c8, c9, c10, c11, c12⟩ := hS
    clear B
    have B := qB; clear qB
    obtain ⟨eb, A0, k0, e6, E, O0⟩ := c10 (hL 10 (by decide))
    obtain ⟨A3, k3, e7, O3⟩ := c11 (hL 11 (by decide))
    have e8 := c12 (hL 12 (by decide))
    simp only [e6, e7, e8]
    clear e6 e7 e8
    clear c0 c1 c2 c3 c4 c5 c6 c7 c8 c9 c10 c11 c12 hL
    have RS := RdL.of O0.rd
    have RG := RdL.of O3.rd
    clear O0 O3
    have B_0 := B.cells 0 _ rfl
    have B_1 := B.cells 1 _ rfl
    have B_f0 := B.free 0 (by simp)
    have B_f1 := B.free 1 (by simp)
    have B_t := B.there
    have hXB := B.below.size
    have hBt : w.heap.size < V0.heap.size := B.there
    have hEt : eb < V0.heap.size := E.there
    go_wp2_with fail
    refine (SKind.toS_any P cap l _ (rd_keep hr B.below) hl).mono ?_
    rintro e v4 ⟨rfl, OX, hv4⟩
    clear B_0 B_1 B_f0 B_f1 B_t
    replace B := B.more hv4
    replace E := E.more hv4
    replace RS := rdl_keep RS hv4
    replace RG := rdl_keep RG hv4
    have zhv4 := hv4.size
    clear hv4
    have B_0 := B.cells 0 _ rfl
    have B_1 := B.cells 1 _ rfl
    have B_f0 := B.free 0 (by simp)
    have B_f1 := B.free 1 (by simp)
    have B_t := B.there
    have hXZ : V0.heap.size < v4.heap.size := own_lt OX
    go_wp2_with fail
    refine (to_at ⟨wt, ⟨A, c, s⟩⟩ _ (rd_keep hs B.below) hsl).mono ?_
    rintro e v5 ⟨rfl, ho, hv5⟩
    clear B_0 B_1 B_f0 B_f1 B_t
    replace B := B.more hv5
    replace E := E.more hv5
    replace RS := rdl_keep RS hv5
    replace RG := rdl_keep RG hv5
    replace OX := own_keep OX hv5
    have zhv5 := hv5.size
    clear hv5
    have B_0 := B.cells 0 _ rfl
    have B_1 := B.cells 1 _ rfl
    have B_f0 := B.free 0 (by simp)
    have B_f1 := B.free 1 (by simp)
    have B_t := B.there
    obtain ⟨zb, hzb⟩ : ∃ b, v4.heap.size + 3 = b := ⟨_, rfl⟩
    rw [hzb] at ho ⊢
    have hzt := (ho.lt zb rfl).2
    go_wp2_with fail
    have HB0 := B.below
    have B_t6 := B.there
    have E_t6 := E.there
    have Y := Box.new B.below [.int .i64 wt, .slice (some ⟨zb, 0, none⟩) s.length s.length] 27 (g := v5.heap.size) rfl
    clear B_0 B_1 B_f0 B_f1 B_t
    replace B := (B).alloc (.cells #[.int .i64 wt, .slice (some ⟨zb, 0, none⟩) s.length s.length] 27)
    replace E := (E).alloc (.cells #[.int .i64 wt, .slice (some ⟨zb, 0, none⟩) s.length s.length] 27)
    replace RS := rdl_keep RS (al (Below.refl _ _) (o := (.cells #[.int .i64 wt, .slice (some ⟨zb, 0, none⟩) s.length s.length] 27)))
    replace RG := rdl_keep RG (al (Below.refl _ _) (o := (.cells #[.int .i64 wt, .slice (some ⟨zb, 0, none⟩) s.length s.length] 27)))
    replace OX := own_keep OX (al (Below.refl _ _) (o := (.cells #[.int .i64 wt, .slice (some ⟨zb, 0, none⟩) s.length s.length] 27)))
    replace ho := RowOwn.keep ho (al (Below.refl _ _) (o := (.cells #[.int .i64 wt, .slice (some ⟨zb, 0, none⟩) s.length s.length] 27)))
    generalize (v5.alloc (.cells #[.int .i64 wt, .slice (some ⟨zb, 0, none⟩) s.length s.length] 27)) = W6 at Y B E RS RG OX ho ⊢
    have B_0 := B.cells 0 _ rfl
    have B_1 := B.cells 1 _ rfl
    have B_f0 := B.free 0 (by simp)
    have B_f1 := B.free 1 (by simp)
    have B_t := B.there
    have E_0 := E.cells 0 _ rfl
    have E_1 := E.cells 1 _ rfl
    have E_f0 := E.free 0 (by simp)
    have E_f1 := E.free 1 (by simp)
    have E_t := E.there
    have Y_0 := Y.cells 0 _ rfl
    have Y_1 := Y.cells 1 _ rfl
    have Y_f0 := Y.free 0 (by simp)
    have Y_f1 := Y.free 1 (by simp)
    have Y_t := Y.there
    have hYt : v5.heap.size < W6.heap.size := Y.there
    clear Y_0 Y_1 Y_f0 Y_f1 Y_t
    obtain ⟨yb, hyb⟩ : ∃ b, v5.heap.size = b := ⟨_, rfl⟩
    rw [hyb] at Y hYt ⊢
    have Y_0 := Y.cells 0 _ rfl
    have Y_1 := Y.cells 1 _ rfl
    have Y_f0 := Y.free 0 (by simp)
    have Y_f1 := Y.free 1 (by simp)
    have Y_t := Y.there
    clear HB0
    go_wp2_with fail
    refine (HIM.out _ _ _ _ _ ⟨Rd.of_own OX, hl, hz, ho.rd, hsl⟩).mono ?_
    rintro e v7 ⟨A1, k1, A2, k2, rfl, T, hv7⟩
    clear B_0 B_1 B_f0 B_f1 B_t
    clear E_0 E_1 E_f0 E_f1 E_t
    clear Y_0 Y_1 Y_f0 Y_f1 Y_t
    replace B := B.more hv7
    replace E := E.more hv7
    replace Y := Y.more hv7
    replace RS := rdl_keep RS hv7
    replace RG := rdl_keep RG hv7
    replace OX := own_keep OX hv7
    replace ho := RowOwn.keep ho hv7
    have zhv7 := hv7.size
    clear hv7
    have B_0 := B.cells 0 _ rfl
    have B_1 := B.cells 1 _ rfl
    have B_f0 := B.free 0 (by simp)
    have B_f1 := B.free 1 (by simp)
    have B_t := B.there
    have E_0 := E.cells 0 _ rfl
    have E_1 := E.cells 1 _ rfl
    have E_f0 := E.free 0 (by simp)
    have E_f1 := E.free 1 (by simp)
    have E_t := E.there
    have Y_0 := Y.cells 0 _ rfl
    have Y_1 := Y.cells 1 _ rfl
    have Y_f0 := Y.free 0 (by simp)
    have Y_f1 := Y.free 1 (by simp)
    have Y_t := Y.there
    have HTA := Lib.hid T.a.lt
    have HTB := Lib.hid T.b.lt
    have hGH : W6.heap.size ≤ v7.heap.size := by omega
    have E_0 := E.cells 0 _ rfl
    have E_1 := E.cells 1 _ rfl
    have E_f0 := E.free 0 (by simp)
    have E_f1 := E.free 1 (by simp)
    have E_t := E.there
    go_wp2_with fail
    have HB0 := B.below
    have B_t8 := B.there
    have E_t8 := E.there
    have Y_t8 := Y.there
    have H := Box.new B.below [.int .i64 wv, .slice A1 M1.length k1] 27 (g := v7.heap.size) rfl
    clear B_0 B_1 B_f0 B_f1 B_t
    replace B := (B).alloc (.cells #[.int .i64 wv, .slice A1 M1.length k1] 27)
    clear E_0 E_1 E_f0 E_f1 E_t
    replace E := (E).alloc (.cells #[.int .i64 wv, .slice A1 M1.length k1] 27)
    clear Y_0 Y_1 Y_f0 Y_f1 Y_t
    replace Y := (Y).alloc (.cells #[.int .i64 wv, .slice A1 M1.length k1] 27)
    replace RS := rdl_keep RS (al (Below.refl _ _) (o := (.cells #[.int .i64 wv, .slice A1 M1.length k1] 27)))
    replace RG := rdl_keep RG (al (Below.refl _ _) (o := (.cells #[.int .i64 wv, .slice A1 M1.length k1] 27)))
    replace OX := own_keep OX (al (Below.refl _ _) (o := (.cells #[.int .i64 wv, .slice A1 M1.length k1] 27)))
    replace ho := RowOwn.keep ho (al (Below.refl _ _) (o := (.cells #[.int .i64 wv, .slice A1 M1.length k1] 27)))
    replace T := two_keep T (al (Below.refl _ _) (o := (.cells #[.int .i64 wv, .slice A1 M1.length k1] 27)))
    generalize (v7.alloc (.cells #[.int .i64 wv, .slice A1 M1.length k1] 27)) = W8 at H B E Y RS RG OX ho T ⊢
    have B_0 := B.cells 0 _ rfl
    have B_1 := B.cells 1 _ rfl
    have B_f0 := B.free 0 (by simp)
    have B_f1 := B.free 1 (by simp)
    have B_t := B.there
    have E_0 := E.cells 0 _ rfl
    have E_1 := E.cells 1 _ rfl
    have E_f0 := E.free 0 (by simp)
    have E_f1 := E.free 1 (by simp)
    have E_t := E.there
    have Y_0 := Y.cells 0 _ rfl
    have Y_1 := Y.cells 1 _ rfl
    have Y_f0 := Y.free 0 (by simp)
    have Y_f1 := Y.free 1 (by simp)
    have Y_t := Y.there
    have H_0 := H.cells 0 _ rfl
    have H_1 := H.cells 1 _ rfl
    have H_f0 := H.free 0 (by simp)
    have H_f1 := H.free 1 (by simp)
    have H_t := H.there
    clear H_0 H_1 H_f0 H_f1 H_t
    obtain ⟨hb, hhb⟩ : ∃ b, v7.heap.size = b := ⟨_, rfl⟩
    rw [hhb] at H HTA HTB hGH ⊢
    have H_0 := H.cells 0 _ rfl
    have H_1 := H.cells 1 _ rfl
    have H_f0 := H.free 0 (by simp)
    have H_f1 := H.free 1 (by simp)
    have H_t := H.there
    clear HB0
    go_wp2_with fail
    refine (LiqW.eq_any ⟨wv, ⟨A1, k1, M1⟩⟩ ⟨wv, ⟨A0, k0, M1⟩⟩ _ T.a.rd RS.rd HM.out.1 HM.out.1).mono ?_
    rintro e v9 ⟨rfl, hv9⟩
    clear B_0 B_1 B_f0 B_f1 B_t
    clear E_0 E_1 E_f0 E_f1 E_t
    clear Y_0 Y_1 Y_f0 Y_f1 Y_t
    clear H_0 H_1 H_f0 H_f1 H_t
    replace B := B.more hv9
    replace E := E.more hv9
    replace Y := Y.more hv9
    replace H := H.more hv9
    replace RS := rdl_keep RS hv9
    replace RG := rdl_keep RG hv9
    replace OX := own_keep OX hv9
    replace ho := RowOwn.keep ho hv9
    replace T := two_keep T hv9
    have zhv9 := hv9.size
    clear hv9
    have B_0 := B.cells 0 _ rfl
    have B_1 := B.cells 1 _ rfl
    have B_f0 := B.free 0 (by simp)
    have B_f1 := B.free 1 (by simp)
    have B_t := B.there
    have E_0 := E.cells 0 _ rfl
    have E_1 := E.cells 1 _ rfl
    have E_f0 := E.free 0 (by simp)
    have E_f1 := E.free 1 (by simp)
    have E_t := E.there
    have Y_0 := Y.cells 0 _ rfl
    have Y_1 := Y.cells 1 _ rfl
    have Y_f0 := Y.free 0 (by simp)
    have Y_f1 := Y.free 1 (by simp)
    have Y_t := Y.there
    have H_0 := H.cells 0 _ rfl
    have H_1 := H.cells 1 _ rfl
    have H_f0 := H.free 0 (by simp)
    have H_f1 := H.free 1 (by simp)
    have H_t := H.there
    rw [same_yes (x := ⟨wv, ⟨A1, k1, M1⟩⟩) (y := ⟨wv, ⟨A0, k0, M1⟩⟩) rfl rfl]
    go_wp2_with fail
    refine (SInt.eqS_any A2 A3 k2 k3 M2 M2 _ T.b.rd RG.rd HM.out.2 HM.out.2).mono ?_
    rintro e v10 ⟨rfl, hv10⟩
    clear B_0 B_1 B_f0 B_f1 B_t
    clear E_0 E_1 E_f0 E_f1 E_t
    clear Y_0 Y_1 Y_f0 Y_f1 Y_t
    clear H_0 H_1 H_f0 H_f1 H_t
    replace B := B.more hv10
    replace E := E.more hv10
    replace Y := Y.more hv10
    replace H := H.more hv10
    replace RS := rdl_keep RS hv10
    replace RG := rdl_keep RG hv10
    replace OX := own_keep OX hv10
    replace ho := RowOwn.keep ho hv10
    replace T := two_keep T hv10
    have zhv10 := hv10.size
    clear hv10
    have B_0 := B.cells 0 _ rfl
    have B_1 := B.cells 1 _ rfl
    have B_f0 := B.free 0 (by simp)
    have B_f1 := B.free 1 (by simp)
    have B_t := B.there
    have E_0 := E.cells 0 _ rfl
    have E_1 := E.cells 1 _ rfl
    have E_f0 := E.free 0 (by simp)
    have E_f1 := E.free 1 (by simp)
    have E_t := E.there
    have Y_0 := Y.cells 0 _ rfl
    have Y_1 := Y.cells 1 _ rfl
    have Y_f0 := Y.free 0 (by simp)
    have Y_f1 := Y.free 1 (by simp)
    have Y_t := Y.there
    have H_0 := H.cells 0 _ rfl
    have H_1 := H.cells 1 _ rfl
    have H_f0 := H.free 0 (by simp)
    have H_f1 := H.free 1 (by simp)
    have H_t := H.there
    rw [decide_eq_true rfl]
    go_wp2_with fail
    refine (SKind.toS_any P cap l _ (rd_keep hr B.below) hl).mono ?_
    rintro e v11 ⟨rfl, ho2, hv11⟩
    clear B_0 B_1 B_f0 B_f1 B_t
    clear E_0 E_1 E_f0 E_f1 E_t
    clear Y_0 Y_1 Y_f0 Y_f1 Y_t
    clear H_0 H_1 H_f0 H_f1 H_t
    replace B := B.more hv11
    replace E := E.more hv11
    replace Y := Y.more hv11
    replace H := H.more hv11
    replace RS := rdl_keep RS hv11
    replace RG := rdl_keep RG hv11
    replace OX := own_keep OX hv11
    replace ho := RowOwn.keep ho hv11
    replace T := two_keep T hv11
    have zhv11 := hv11.size
    clear hv11
    have B_0 := B.cells 0 _ rfl
    have B_1 := B.cells 1 _ rfl
    have B_f0 := B.free 0 (by simp)
    have B_f1 := B.free 1 (by simp)
    have B_t := B.there
    have E_0 := E.cells 0 _ rfl
    have E_1 := E.cells 1 _ rfl
    have E_f0 := E.free 0 (by simp)
    have E_f1 := E.free 1 (by simp)
    have E_t := E.there
    have Y_0 := Y.cells 0 _ rfl
    have Y_1 := Y.cells 1 _ rfl
    have Y_f0 := Y.free 0 (by simp)
    have Y_f1 := Y.free 1 (by simp)
    have Y_t := Y.there
    have H_0 := H.cells 0 _ rfl
    have H_1 := H.cells 1 _ rfl
    have H_f0 := H.free 0 (by simp)
    have H_f1 := H.free 1 (by simp)
    have H_t := H.there
    go_wp2_with fail
    refine (SKind.eqS_any _ _ _ _ l l _ (Rd.of_own OX) (Rd.of_own ho2) HN.out.1 HN.out.1).mono ?_
    rintro e v12 ⟨rfl, hv12⟩
    clear B_0 B_1 B_f0 B_f1 B_t
    clear E_0 E_1 E_f0 E_f1 E_t
    clear Y_0 Y_1 Y_f0 Y_f1 Y_t
    clear H_0 H_1 H_f0 H_f1 H_t
    replace B := B.more hv12
    replace E := E.more hv12
    replace Y := Y.more hv12
    replace H := H.more hv12
    replace RS := rdl_keep RS hv12
    replace RG := rdl_keep RG hv12
    replace OX := own_keep OX hv12
    replace ho := RowOwn.keep ho hv12
    replace T := two_keep T hv12
    have zhv12 := hv12.size
    clear hv12
    have B_0 := B.cells 0 _ rfl
    have B_1 := B.cells 1 _ rfl
    have B_f0 := B.free 0 (by simp)
    have B_f1 := B.free 1 (by simp)
    have B_t := B.there
    have E_0 := E.cells 0 _ rfl
    have E_1 := E.cells 1 _ rfl
    have E_f0 := E.free 0 (by simp)
    have E_f1 := E.free 1 (by simp)
    have E_t := E.there
    have Y_0 := Y.cells 0 _ rfl
    have Y_1 := Y.cells 1 _ rfl
    have Y_f0 := Y.free 0 (by simp)
    have Y_f1 := Y.free 1 (by simp)
    have Y_t := Y.there
    have H_0 := H.cells 0 _ rfl
    have H_1 := H.cells 1 _ rfl
    have H_f0 := H.free 0 (by simp)
    have H_f1 := H.free 1 (by simp)
    have H_t := H.there
    rw [decide_eq_true rfl]
    clear ho2
    go_wp2_with fail
    have HE := Lib.hid (fun n0 : Nat => same_yes (x := ⟨wt, ⟨some ⟨zb, 0, none⟩, s.length, s⟩⟩) (y := ⟨wt, ⟨some ⟨n0 + 3, 0, none⟩, s.length, s⟩⟩) rfl rfl)
    have HLM := Lib.hid (show s.length ≤ maxLen by unfold maxLen; omega)
    clear B_0 B_1 B_f0 B_f1 B_t
    clear Y_0 Y_1 Y_f0 Y_f1 Y_t
    clear E_0 E_1 E_f0 E_f1 E_t
    clear H_0 H_1 H_f0 H_f1 H_t
    obtain ⟨n0, hn0⟩ : ∃ n, n = v12.heap.size := ⟨_, rfl⟩
    refine wp_region_seq (fun L w' => Box (w.heap.size) [.int .i64 wt, .slice A s.length c] w w' ∧ Box yb [.int .i64 wt, .slice (some ⟨zb, 0, none⟩) s.length s.length] w w' ∧
      RowOwn w' v4.heap.size ⟨some ⟨zb, 0, none⟩, s.length, s⟩ ∧ (¬ L 2 → w'.heap.size = n0) ∧ (L 2 → RowOwn w' n0 ⟨some ⟨n0 + 3, 0, none⟩, s.length, s⟩) ∧
      Box eb [.int .i64 wv, .slice A0 M1.length k0] w w' ∧ Box hb [.int .i64 wv, .slice A1 M1.length k1] w w' ∧ RdL w' V0.heap.size A0 (iv M1) ∧ RdL w' V0.heap.size A3 (iv M2) ∧ Two w' W6.heap.size [] ⟨A1, k1, M1⟩ ⟨A2, k2, M2⟩ ∧
      w'.ownsRow V0.heap.size 37 3 (.slice (some ⟨V0.heap.size, 0, none⟩) l.length l.length) l.length (SKind.flat l)) (by kernel_rfl) (by kernel_rfl) ⟨B.drew, Y.drew, ho.keep (Below.refl _ _).drew, fun _ => hn0.symm, fun h => h.elim, E.drew, H.drew, rdl_keep RS (Below.refl _ _).drew, rdl_keep RG (Below.refl _ _).drew, two_keep T (Below.refl _ _).drew, own_keep OX (Below.refl _ _).drew⟩ ?_
    replace hn0 := Lib.hid hn0
    iterate 5 (
      apply SeqH.op
      · intro L uw K hN hS hK
        obtain ⟨qX, qY, qR, qz, qo, qE, qG, qRS, qRG, qT, qK⟩ := hS
        have qX_0 := qX.cells 0 _ rfl; have qX_1 := qX.cells 1 _ rfl
        have qY_0 := qY.cells 0 _ rfl; have qY_1 := qY.cells 1 _ rfl
        first
          | (go_simp; exact hK.out _ ⟨qX, qY, qR, fun a => qz (fun h => a (.inl h)), fun h => qo (h.resolve_right (by decide)), qE, qG, qRS, qRG, qT, qK⟩)
          | (have e0 := qz (hN.out.1 2 (by decide +kernel)); go_simp; go_at_call 46; (with_reducible refine (to_at ⟨wt, ⟨A, c, s⟩⟩ _ (rd_keep hs qX.below) hsl).mono ?_); rintro e uw1 ⟨rfl, ho, hv⟩; rw [e0] at ho ⊢; go_wp2_with fail; exact hK.out _ ⟨qX.more hv, qY.more hv, qR.keep hv, fun a => (a (by simp)).elim, fun _ => ho, qE.more hv, qG.more hv, rdl_keep qRS hv, rdl_keep qRG hv, two_keep qT hv, own_keep qK hv⟩)
          | (have ql := hN.out.2 2 (by decide +kernel); have qr := qo ql; go_simp; go_at_call 47; (with_reducible refine (LiqW.eq_any ⟨wt, ⟨some ⟨zb, 0, none⟩, s.length, s⟩⟩ ⟨wt, ⟨some ⟨n0 + 3, 0, none⟩, s.length, s⟩⟩ _ qR.rd qr.rd HLM.out HLM.out).mono ?_); rintro e uw1 ⟨rfl, hv⟩; rw [HE.out n0]; go_wp2_with fail; exact hK.out _ ⟨qX.more hv, qY.more hv, qR.keep hv, fun a => (a (.inl ql)).elim, fun h => qr.keep hv, qE.more hv, qG.more hv, rdl_keep qRS hv, rdl_keep qRG hv, two_keep qT hv, own_keep qK hv⟩)
      try simp only [Act.put, List.setIfInBounds_toArray, List.set_cons_zero, List.set_cons_succ])
    refine SeqH.done rfl ?_
    intro L V5 hL hS
    clear B Y ho E H RS RG T OX
    obtain ⟨B, Y, ho, _, _, E, H, RS, RG, T, OX⟩ := hS
    clear hL hn0 HE
    go_wp2_with fail
    go_wp2_with fail
    refine (kmark1 _ _ V0.heap.size l _ OX hl).mono ?_
    rintro e v13 ⟨rfl, om, hg⟩
    replace RS := RS.grown hg (fun k hk => by have := row_at hk; omega)
    replace RG := RG.grown hg (fun k hk => by have := row_at hk; omega)
    replace B := box_grown B hg (fun k hk => by have := row_at hk; omega)
    replace E := box_grown E hg (fun k hk => by have := row_at hk; omega)
    replace Y := box_grown Y hg (fun k hk => by have := row_at hk; omega)
    replace H := box_grown H hg (fun k hk => by have := row_at hk; omega)
    replace ho := row_grown ho hg (fun k hk e => by have := row_at hk; have := blk_at e; omega)
    replace T := two_grown T hg (fun k hk => by have := row_at hk; omega)
    clear OX
    clear om hg
    obtain ⟨kk, hkk⟩ : ∃ v : Int, ((1 + l.length * 3 : Nat) : Int) = v := ⟨_, rfl⟩
    rw [hkk]
    have hkr : 0 ≤ kk ∧ kk ≤ 4000000 := by omega
    clear hkk
    have Y_0 := Y.cells 0 _ rfl
    have Y_1 := Y.cells 1 _ rfl
    have Y_f0 := Y.free 0 (by simp)
    have Y_f1 := Y.free 1 (by simp)
    have Y_t := Y.there
    go_wp2_with fail
    refine (LiqM.mark_any ⟨wt, ⟨some ⟨zb, 0, none⟩, s.length, s⟩⟩ v4.heap.size kk _ ho (show s.length ≤ 100000000 by omega) (by omega) (by omega)).mono ?_
    rintro e v14 ⟨rfl, om, hg⟩
    clear Y_0 Y_1 Y_f0 Y_f1 Y_t
    replace RS := RS.grown hg (fun k hk => by have := blk_at hk; omega)
    replace RG := RG.grown hg (fun k hk => by have := blk_at hk; omega)
    replace B := box_grown B hg (fun k hk => by have := blk_at hk; omega)
    replace E := box_grown E hg (fun k hk => by have := blk_at hk; omega)
    replace H := box_grown H hg (fun k hk => by have := blk_at hk; omega)
    replace T := two_grown T hg (fun k hk => by have := blk_at hk; omega)
    clear om hg Y
    clear ho
    have hneg : decide (kk + (s.length : Int) < 0) = false := decide_eq_false (by omega)
    have E_0 := E.cells 0 _ rfl
    have E_1 := E.cells 1 _ rfl
    have E_f0 := E.free 0 (by simp)
    have E_f1 := E.free 1 (by simp)
    have E_t := E.there
    have H_0 := H.cells 0 _ rfl
    have H_1 := H.cells 1 _ rfl
    have H_f0 := H.free 0 (by simp)
    have H_f1 := H.free 1 (by simp)
    have H_t := H.there
    go_wp2_with fail
    refine (LiqW.eq_any ⟨wv, ⟨A1, k1, M1⟩⟩ ⟨wv, ⟨A0, k0, M1⟩⟩ _ T.a.rd RS.rd HM.out.1 HM.out.1).mono ?_
    rintro e v15 ⟨rfl, hv15⟩
    clear E_0 E_1 E_f0 E_f1 E_t
    clear H_0 H_1 H_f0 H_f1 H_t
    replace B := B.more hv15
    replace E := E.more hv15
    replace H := H.more hv15
    replace RS := rdl_keep RS hv15
    replace RG := rdl_keep RG hv15
    replace T := two_keep T hv15
    have zhv15 := hv15.size
    clear hv15
    have E_0 := E.cells 0 _ rfl
    have E_1 := E.cells 1 _ rfl
    have E_f0 := E.free 0 (by simp)
    have E_f1 := E.free 1 (by simp)
    have E_t := E.there
    have H_0 := H.cells 0 _ rfl
    have H_1 := H.cells 1 _ rfl
    have H_f0 := H.free 0 (by simp)
    have H_f1 := H.free 1 (by simp)
    have H_t := H.there
    rw [same_yes (x := ⟨wv, ⟨A1, k1, M1⟩⟩) (y := ⟨wv, ⟨A0, k0, M1⟩⟩) rfl rfl]
    go_wp2_with fail
    refine (SInt.eqS_any A2 A3 k2 k3 M2 M2 _ T.b.rd RG.rd HM.out.2 HM.out.2).mono ?_
    rintro e v16 ⟨rfl, hv16⟩
    clear E_0 E_1 E_f0 E_f1 E_t
    clear H_0 H_1 H_f0 H_f1 H_t
    replace B := B.more hv16
    replace E := E.more hv16
    replace H := H.more hv16
    replace RS := rdl_keep RS hv16
    replace RG := rdl_keep RG hv16
    replace T := two_keep T hv16
    have zhv16 := hv16.size
    clear hv16
    have E_0 := E.cells 0 _ rfl
    have E_1 := E.cells 1 _ rfl
    have E_f0 := E.free 0 (by simp)
    have E_f1 := E.free 1 (by simp)
    have E_t := E.there
    have H_0 := H.cells 0 _ rfl
    have H_1 := H.cells 1 _ rfl
    have H_f0 := H.free 0 (by simp)
    have H_f1 := H.free 1 (by simp)
    have H_t := H.there
    rw [decide_eq_true rfl]
    go_wp2_with fail
    refine (LiqM.mark_any ⟨wv, ⟨A1, k1, M1⟩⟩ W6.heap.size 1 _ T.a (show M1.length ≤ 100000000 by omega) (by omega) (by omega)).mono ?_
    rintro e v17 ⟨rfl, om, hg⟩
    clear E_0 E_1 E_f0 E_f1 E_t
    clear H_0 H_1 H_f0 H_f1 H_t
    replace RS := RS.grown hg (fun k hk => by have := HTA.out k hk; omega)
    replace RG := RG.grown hg (fun k hk => by have := HTA.out k hk; omega)
    replace B := box_grown B hg (fun k hk => by have := HTA.out k hk; omega)
    replace E := box_grown E hg (fun k hk => by have := HTA.out k hk; omega)
    replace H := box_grown H hg (fun k hk => by have := HTA.out k hk; omega)
    have T8 := two_mark T om hg
    clear T
    have T := T8
    clear om hg T8
    go_wp2_with fail
    refine (SInt.markS_any A2 k2 W6.heap.size M2 (1 + M1.length) _ T.b (by omega) (by omega) (by omega)).mono ?_
    rintro e v18 ⟨rfl, om, hg⟩
    replace RS := RS.grown hg (fun k hk => by have := HTB.out k hk; omega)
    replace RG := RG.grown hg (fun k hk => by have := HTB.out k hk; omega)
    replace B := box_grown B hg (fun k hk => by have := HTB.out k hk; omega)
    replace E := box_grown E hg (fun k hk => by have := HTB.out k hk; omega)
    replace H := box_grown H hg (fun k hk => by have := HTB.out k hk; omega)
    have T8 := (two_mark T.swap (row_marked om) hg).swap
    clear T
    have T := T8
    clear om hg T8 HTA HTB
    have H_0 := H.cells 0 _ rfl
    have H_1 := H.cells 1 _ rfl
    have H_f0 := H.free 0 (by simp)
    have H_f1 := H.free 1 (by simp)
    have H_t := H.there
    go_wp2_with fail
    refine (LiqM.held_any wv A1 k1 1 M1.length _ T.a.rd (by omega) (by omega) (by omega)).mono ?_
    rintro e v19 ⟨rfl, hv19⟩
    clear H_0 H_1 H_f0 H_f1 H_t
    replace B := B.more hv19
    replace E := E.more hv19
    replace H := H.more hv19
    replace RS := rdl_keep RS hv19
    replace RG := rdl_keep RG hv19
    replace T := two_keep T hv19
    have zhv19 := hv19.size
    clear hv19
    have H_0 := H.cells 0 _ rfl
    have H_1 := H.cells 1 _ rfl
    have H_f0 := H.free 0 (by simp)
    have H_f1 := H.free 1 (by simp)
    have H_t := H.there
    go_wp2_with fail
    refine (SInt.heldS_any A2 k2 _ (1 + M1.length) M2.length _ T.b.rd (by omega) (by omega) (by omega)).mono ?_
    rintro e v20 ⟨rfl, hd⟩
    have hd2 := hd.below v19.heap.size; clear hd
    clear H_0 H_1 H_f0 H_f1 H_t
    replace B := B.more hd2
    replace E := E.more hd2
    replace H := H.more hd2
    replace RS := rdl_keep RS hd2
    replace RG := rdl_keep RG hd2
    replace T := two_keep T hd2
    clear hd2
    have H_0 := H.cells 0 _ rfl
    have H_1 := H.cells 1 _ rfl
    have H_f0 := H.free 0 (by simp)
    have H_f1 := H.free 1 (by simp)
    have H_t := H.there
    go_wp2_with fail
    clear H_0 H_1 H_f0 H_f1 H_t
    refine wp_region_rel [120, 121, 122, 123, 124, 119, 125, 126, 127, 17, 18, 19] (fun L f w' => (Box (w.heap.size) [.int .i64 wt, .slice A s.length c] w w') ∧ (Box eb [.int .i64 wv, .slice A0 M1.length k0] w w') ∧ (Box hb [.int .i64 wv, .slice A1 M1.length k1] w w') ∧ (RdL w' V0.heap.size A0 (iv M1)) ∧ (RdL w' V0.heap.size A3 (iv M2)) ∧ (Two w' W6.heap.size [] ⟨A1, k1, SInt.marks 1 M1.length⟩ ⟨A2, k2, SInt.marks (1 + M1.length) M2.length⟩) ∧ (L 0 → f 120 = .slice P l.length cap) ∧ (L 1 → ¬ L 10 → ∃ g, f 121 = .slice (some ⟨g, 0, none⟩) l.length l.length ∧ w'.ownsRow w.heap.size 37 3 (.slice (some ⟨g, 0, none⟩) l.length l.length) l.length (SKind.flat l)) ∧ (L 2 → f 122 = .agg #[.int .i64 wt, .slice A s.length c]) ∧ (L 3 → ¬ L 10 → ∃ g, f 123 = .agg #[.int .i64 wt, .slice (some ⟨g, 0, none⟩) s.length s.length] ∧ RowOwn w' w.heap.size ⟨some ⟨g, 0, none⟩, s.length, s⟩) ∧ (L 4 → ∃ A8 q8 A9 q9, f 124 = .tuple #[.agg #[.int .i64 wv, .slice A8 M1.length q8], .slice A9 M2.length q9, .bool z] ∧ RowOwn w' w.heap.size ⟨A8, q8, M1⟩ ∧ RowOwn w' w.heap.size ⟨A9, q9, M2⟩) ∧ (L 5 → ∃ A8 q8 A9 q9, f 119 = .tuple #[.agg #[.int .i64 wv, .slice A8 M1.length q8], .slice A9 M2.length q9, .bool z] ∧ RowOwn w' w.heap.size ⟨A8, q8, M1⟩ ∧ RowOwn w' w.heap.size ⟨A9, q9, M2⟩) ∧ (L 6 → ∃ A8 q8, f 125 = .agg #[.int .i64 wv, .slice A8 M1.length q8] ∧ RowOwn w' w.heap.size ⟨A8, q8, M1⟩) ∧ (L 7 → ∃ A9 q9, f 126 = .slice A9 M2.length q9 ∧ RowOwn w' w.heap.size ⟨A9, q9, M2⟩) ∧ (L 8 → f 127 = .bool z) ∧ (L 9 → ¬ L 10 → ∃ g, f 17 = .pointer (some ⟨g, 0, none⟩) ∧ g ≠ w.heap.size ∧ g ≠ eb ∧ g ≠ hb ∧ V0.heap.size ≤ g ∧ Tb g w' ∧ Box g [.int .i64 0, .slice none 0 0] w w') ∧ (L 10 → ∃ g A8 q8, f 17 = .pointer (some ⟨g, 0, none⟩) ∧ Box g [.int .i64 wv, .slice A8 M1.length q8] w w' ∧ RowOwn w' w.heap.size ⟨A8, q8, M1⟩) ∧ (L 11 → ∃ A9 q9, f 18 = .slice A9 M2.length q9 ∧ RowOwn w' w.heap.size ⟨A9, q9, M2⟩) ∧ (L 12 → f 19 = .bool z)) (by kernel_rfl) (by kernel_rfl) (by kernel_rfl) (fun f => ⟨B.drew, E.drew, H.drew, rdl_keep RS (Below.refl _ _).drew, rdl_keep RG (Below.refl _ _).drew, two_keep T (Below.refl _ _).drew, fun h => h.elim, fun h => h.elim, fun h => h.elim, fun h => h.elim, fun h => h.elim, fun h => h.elim, fun h => h.elim, fun h => h.elim, fun h => h.elim, fun h => h.elim, fun h => h.elim, fun h => h.elim, fun h => h.elim⟩) ?_ ?_
    · apply RelH.op2
      · intro L f u K hN hS hK
        simp only [puts, Act.put, List.setIfInBounds_toArray, List.set_cons_zero, List.set_cons_succ, upd, Nat.reduceEqDiff, ↓reduceIte, if_true, if_false] at hK ⊢
        have HS9 := Lib.hid hS
        obtain ⟨qB, qE, qG, qRS, qRG, qT, c0, c1, c2, c3, c4, c5, c6, c7, c8, c9, c10, c11, c12⟩ := hS
        clear qRS qRG c0 c1 c2 c3 c4 c5 c6 c7 c8 c9 c10 c11 c12
        go_simp
        obtain ⟨qB, qE, qG, qRS, qRG, qT, c0, c1, c2, c3, c4, c5, c6, c7, c8, c9, c10, c11, c12⟩ := HS9.out
        exact hK.out _ _ ⟨qB, qE, qG, qRS, qRG, qT, fun _ => rfl, fun h t0 => c1 (h.resolve_right (by decide)) (fun z => t0 (.inl z)), fun h => c2 (h.resolve_right (by decide)), fun h t0 => c3 (h.resolve_right (by decide)) (fun z => t0 (.inl z)), fun h => c4 (h.resolve_right (by decide)), fun h => c5 (h.resolve_right (by decide)), fun h => c6 (h.resolve_right (by decide)), fun h => c7 (h.resolve_right (by decide)), fun h => c8 (h.resolve_right (by decide)), fun h t0 => c9 (h.resolve_right (by decide)) (fun z => t0 (.inl z)), fun h => c10 (h.resolve_right (by decide)), fun h => c11 (h.resolve_right (by decide)), fun h => c12 (h.resolve_right (by decide))⟩ _ rfl
      apply RelH.op2
      · intro L f u K hN hS hK
        simp only [puts, Act.put, List.setIfInBounds_toArray, List.set_cons_zero, List.set_cons_succ, upd, Nat.reduceEqDiff, ↓reduceIte, if_true, if_false] at hK ⊢
        have HS9 := Lib.hid hS
        obtain ⟨qB, qE, qG, qRS, qRG, qT, c0, c1, c2, c3, c4, c5, c6, c7, c8, c9, c10, c11, c12⟩ := hS
        have e0 := c0 (hN.out.2 0 (by decide +kernel))
        have HCON := Lib.hid (SKind.toS_any P cap l u (rd_keep hr qB.below) hl)
        clear qRS qRG c0 c1 c2 c3 c4 c5 c6 c7 c8 c9 c10 c11 c12
        go_simp
        go_at_call 43
        (with_reducible refine HCON.out.mono ?_)
        rintro e uw1 ⟨rfl, ho, hv⟩
        go_wp2_with fail
        obtain ⟨qB, qE, qG, qRS, qRG, qT, c0, c1, c2, c3, c4, c5, c6, c7, c8, c9, c10, c11, c12⟩ := HS9.out
        exact hK.out _ _ ⟨qB.more hv, qE.more hv, qG.more hv, rdl_keep qRS hv, rdl_keep qRG hv, two_keep qT hv, fun h => c0 (h.resolve_right (by decide)), fun _ _ => ⟨_, rfl, own_base ho qB.below.size⟩, fun h => c2 (h.resolve_right (by decide)), fun h t0 => (let ⟨g, e, O⟩ := (c3 (h.resolve_right (by decide)) (fun z => t0 (.inl z))); ⟨g, e, O.keep hv⟩), fun h => (let ⟨A8, q8, A9, q9, e, O8, O9⟩ := (c4 (h.resolve_right (by decide))); ⟨A8, q8, A9, q9, e, O8.keep hv, O9.keep hv⟩), fun h => (let ⟨A8, q8, A9, q9, e, O8, O9⟩ := (c5 (h.resolve_right (by decide))); ⟨A8, q8, A9, q9, e, O8.keep hv, O9.keep hv⟩), fun h => (let ⟨A8, q8, e, O8⟩ := (c6 (h.resolve_right (by decide))); ⟨A8, q8, e, O8.keep hv⟩), fun h => (let ⟨A8, q8, e, O8⟩ := (c7 (h.resolve_right (by decide))); ⟨A8, q8, e, O8.keep hv⟩), fun h => c8 (h.resolve_right (by decide)), fun h t0 => (let ⟨g, e, hne, hne2, hne3, hle, TY, X⟩ := (c9 (h.resolve_right (by decide)) (fun z => t0 (.inl z))); ⟨g, e, hne, hne2, hne3, hle, TY.keep hv, X.more hv⟩), fun h => (let ⟨g, A8, q8, e, X, O8⟩ := (c10 (h.resolve_right (by decide))); ⟨g, A8, q8, e, X.more hv, O8.keep hv⟩), fun h => (let ⟨A8, q8, e, O8⟩ := (c11 (h.resolve_right (by decide))); ⟨A8, q8, e, O8.keep hv⟩), fun h => c12 (h.resolve_right (by decide))⟩ _ (by simp only [e0])
      apply RelH.op2
      · intro L f u K hN hS hK
        simp only [puts, Act.put, List.setIfInBounds_toArray, List.set_cons_zero, List.set_cons_succ, upd, Nat.reduceEqDiff, ↓reduceIte, if_true, if_false] at hK ⊢
        have HS9 := Lib.hid hS
        obtain ⟨qB, qE, qG, qRS, qRG, qT, c0, c1, c2, c3, c4, c5, c6, c7, c8, c9, c10, c11, c12⟩ := hS
        have qB_0 := qB.cells 0 _ rfl
        have qB_1 := qB.cells 1 _ rfl
        clear qRS qRG c0 c1 c2 c3 c4 c5 c6 c7 c8 c9 c10 c11 c12
        go_simp
        obtain ⟨qB, qE, qG, qRS, qRG, qT, c0, c1, c2, c3, c4, c5, c6, c7, c8, c9, c10, c11, c12⟩ := HS9.out
        exact hK.out _ _ ⟨qB, qE, qG, qRS, qRG, qT, fun h => c0 (h.resolve_right (by decide)), fun h t0 => c1 (h.resolve_right (by decide)) (fun z => t0 (.inl z)), fun _ => rfl, fun h t0 => c3 (h.resolve_right (by decide)) (fun z => t0 (.inl z)), fun h => c4 (h.resolve_right (by decide)), fun h => c5 (h.resolve_right (by decide)), fun h => c6 (h.resolve_right (by decide)), fun h => c7 (h.resolve_right (by decide)), fun h => c8 (h.resolve_right (by decide)), fun h t0 => c9 (h.resolve_right (by decide)) (fun z => t0 (.inl z)), fun h => c10 (h.resolve_right (by decide)), fun h => c11 (h.resolve_right (by decide)), fun h => c12 (h.resolve_right (by decide))⟩ _ rfl
      apply RelH.op2
      · intro L f u K hN hS hK
        simp only [puts, Act.put, List.setIfInBounds_toArray, List.set_cons_zero, List.set_cons_succ, upd, Nat.reduceEqDiff, ↓reduceIte, if_true, if_false] at hK ⊢
        have HS9 := Lib.hid hS
        obtain ⟨qB, qE, qG, qRS, qRG, qT, c0, c1, c2, c3, c4, c5, c6, c7, c8, c9, c10, c11, c12⟩ := hS
        have e2 := c2 (hN.out.2 2 (by decide +kernel))
        have HCON := Lib.hid (to_at ⟨wt, ⟨A, c, s⟩⟩ u (rd_keep hs qB.below) hsl)
        clear qRS qRG c0 c1 c2 c3 c4 c5 c6 c7 c8 c9 c10 c11 c12
        go_simp
        go_at_call 46
        (with_reducible refine HCON.out.mono ?_)
        rintro e uw1 ⟨rfl, ho, hv⟩
        go_wp2_with fail
        obtain ⟨qB, qE, qG, qRS, qRG, qT, c0, c1, c2, c3, c4, c5, c6, c7, c8, c9, c10, c11, c12⟩ := HS9.out
        exact hK.out _ _ ⟨qB.more hv, qE.more hv, qG.more hv, rdl_keep qRS hv, rdl_keep qRG hv, two_keep qT hv, fun h => c0 (h.resolve_right (by decide)), fun h t0 => (let ⟨g, e, O⟩ := (c1 (h.resolve_right (by decide)) (fun z => t0 (.inl z))); ⟨g, e, own_keep O hv⟩), fun h => c2 (h.resolve_right (by decide)), fun _ _ => ⟨_, rfl, ho.base qB.below.size⟩, fun h => (let ⟨A8, q8, A9, q9, e, O8, O9⟩ := (c4 (h.resolve_right (by decide))); ⟨A8, q8, A9, q9, e, O8.keep hv, O9.keep hv⟩), fun h => (let ⟨A8, q8, A9, q9, e, O8, O9⟩ := (c5 (h.resolve_right (by decide))); ⟨A8, q8, A9, q9, e, O8.keep hv, O9.keep hv⟩), fun h => (let ⟨A8, q8, e, O8⟩ := (c6 (h.resolve_right (by decide))); ⟨A8, q8, e, O8.keep hv⟩), fun h => (let ⟨A8, q8, e, O8⟩ := (c7 (h.resolve_right (by decide))); ⟨A8, q8, e, O8.keep hv⟩), fun h => c8 (h.resolve_right (by decide)), fun h t0 => (let ⟨g, e, hne, hne2, hne3, hle, TY, X⟩ := (c9 (h.resolve_right (by decide)) (fun z => t0 (.inl z))); ⟨g, e, hne, hne2, hne3, hle, TY.keep hv, X.more hv⟩), fun h => (let ⟨g, A8, q8, e, X, O8⟩ := (c10 (h.resolve_right (by decide))); ⟨g, A8, q8, e, X.more hv, O8.keep hv⟩), fun h => (let ⟨A8, q8, e, O8⟩ := (c11 (h.resolve_right (by decide))); ⟨A8, q8, e, O8.keep hv⟩), fun h => c12 (h.resolve_right (by decide))⟩ _ (by simp only [e2])
      apply RelH.op2
      · intro L f u K hN hS hK
        simp only [puts, Act.put, List.setIfInBounds_toArray, List.set_cons_zero, List.set_cons_succ, upd, Nat.reduceEqDiff, ↓reduceIte, if_true, if_false] at hK ⊢
        have HS9 := Lib.hid hS
        obtain ⟨qB, qE, qG, qRS, qRG, qT, c0, c1, c2, c3, c4, c5, c6, c7, c8, c9, c10, c11, c12⟩ := hS
        obtain ⟨g, e1, O⟩ := c1 (hN.out.2 1 (by decide +kernel)) (hN.out.1 10 (by decide +kernel))
        obtain ⟨g2, e3, O2⟩ := c3 (hN.out.2 3 (by decide +kernel)) (hN.out.1 10 (by decide +kernel))
        have HCON := Lib.hid (HIM.out (some ⟨g, 0, none⟩) l.length (some ⟨g2, 0, none⟩) s.length u ⟨Rd.of_own O, hl, hz, O2.rd, hsl⟩)
        clear qRS qRG c0 c1 c2 c3 c4 c5 c6 c7 c8 c9 c10 c11 c12
        go_simp
        go_at_call 16
        (with_reducible refine HCON.out.mono ?_)
        rintro e uw1 ⟨A8, q8, A9, q9, rfl, T, hv⟩
        go_wp2_with fail
        obtain ⟨qB, qE, qG, qRS, qRG, qT, c0, c1, c2, c3, c4, c5, c6, c7, c8, c9, c10, c11, c12⟩ := HS9.out
        exact hK.out _ _ ⟨qB.more hv, qE.more hv, qG.more hv, rdl_keep qRS hv, rdl_keep qRG hv, two_keep qT hv, fun h => c0 (h.resolve_right (by decide)), fun h t0 => (let ⟨g, e, O⟩ := (c1 (h.resolve_right (by decide)) (fun z => t0 (.inl z))); ⟨g, e, own_keep O hv⟩), fun h => c2 (h.resolve_right (by decide)), fun h t0 => (let ⟨g, e, O⟩ := (c3 (h.resolve_right (by decide)) (fun z => t0 (.inl z))); ⟨g, e, O.keep hv⟩), fun _ => ⟨A8, q8, A9, q9, rfl, T.a.base qB.below.size, T.b.base qB.below.size⟩, fun h => (let ⟨A8, q8, A9, q9, e, O8, O9⟩ := (c5 (h.resolve_right (by decide))); ⟨A8, q8, A9, q9, e, O8.keep hv, O9.keep hv⟩), fun h => (let ⟨A8, q8, e, O8⟩ := (c6 (h.resolve_right (by decide))); ⟨A8, q8, e, O8.keep hv⟩), fun h => (let ⟨A8, q8, e, O8⟩ := (c7 (h.resolve_right (by decide))); ⟨A8, q8, e, O8.keep hv⟩), fun h => c8 (h.resolve_right (by decide)), fun h t0 => (let ⟨g, e, hne, hne2, hne3, hle, TY, X⟩ := (c9 (h.resolve_right (by decide)) (fun z => t0 (.inl z))); ⟨g, e, hne, hne2, hne3, hle, TY.keep hv, X.more hv⟩), fun h => (let ⟨g, A8, q8, e, X, O8⟩ := (c10 (h.resolve_right (by decide))); ⟨g, A8, q8, e, X.more hv, O8.keep hv⟩), fun h => (let ⟨A8, q8, e, O8⟩ := (c11 (h.resolve_right (by decide))); ⟨A8, q8, e, O8.keep hv⟩), fun h => c12 (h.resolve_right (by decide))⟩ _ (by simp only [e1, e3])
      apply RelH.op2
      · intro L f u K hN hS hK
        simp only [puts, Act.put, List.setIfInBounds_toArray, List.set_cons_zero, List.set_cons_succ, upd, Nat.reduceEqDiff, ↓reduceIte, if_true, if_false] at hK ⊢
        have HS9 := Lib.hid hS
        obtain ⟨qB, qE, qG, qRS, qRG, qT, c0, c1, c2, c3, c4, c5, c6, c7, c8, c9, c10, c11, c12⟩ := hS
        obtain ⟨A8, q8, A9, q9, e4, O8, O9⟩ := c4 (hN.out.2 4 (by decide +kernel))
        clear qRS qRG c0 c1 c2 c3 c4 c5 c6 c7 c8 c9 c10 c11 c12
        go_simp
        obtain ⟨qB, qE, qG, qRS, qRG, qT, c0, c1, c2, c3, c4, c5, c6, c7, c8, c9, c10, c11, c12⟩ := HS9.out
        exact hK.out _ _ ⟨qB, qE, qG, qRS, qRG, qT, fun h => c0 (h.resolve_right (by decide)), fun h t0 => c1 (h.resolve_right (by decide)) (fun z => t0 (.inl z)), fun h => c2 (h.resolve_right (by decide)), fun h t0 => c3 (h.resolve_right (by decide)) (fun z => t0 (.inl z)), fun h => c4 (h.resolve_right (by decide)), fun _ => ⟨A8, q8, A9, q9, rfl, O8, O9⟩, fun h => c6 (h.resolve_right (by decide)), fun h => c7 (h.resolve_right (by decide)), fun h => c8 (h.resolve_right (by decide)), fun h t0 => c9 (h.resolve_right (by decide)) (fun z => t0 (.inl z)), fun h => c10 (h.resolve_right (by decide)), fun h => c11 (h.resolve_right (by decide)), fun h => c12 (h.resolve_right (by decide))⟩ _ (by simp only [e4])
      apply RelH.op2
      · intro L f u K hN hS hK
        simp only [puts, Act.put, List.setIfInBounds_toArray, List.set_cons_zero, List.set_cons_succ, upd, Nat.reduceEqDiff, ↓reduceIte, if_true, if_false] at hK ⊢
        have HS9 := Lib.hid hS
        obtain ⟨qB, qE, qG, qRS, qRG, qT, c0, c1, c2, c3, c4, c5, c6, c7, c8, c9, c10, c11, c12⟩ := hS
        obtain ⟨A8, q8, A9, q9, e5, O8, O9⟩ := c5 (hN.out.2 5 (by decide +kernel))
        clear qRS qRG c0 c1 c2 c3 c4 c5 c6 c7 c8 c9 c10 c11 c12
        go_simp
        obtain ⟨qB, qE, qG, qRS, qRG, qT, c0, c1, c2, c3, c4, c5, c6, c7, c8, c9, c10, c11, c12⟩ := HS9.out
        exact hK.out _ _ ⟨qB, qE, qG, qRS, qRG, qT, fun h => c0 (h.resolve_right (by decide)), fun h t0 => c1 (h.resolve_right (by decide)) (fun z => t0 (.inl z)), fun h => c2 (h.resolve_right (by decide)), fun h t0 => c3 (h.resolve_right (by decide)) (fun z => t0 (.inl z)), fun h => c4 (h.resolve_right (by decide)), fun h => c5 (h.resolve_right (by decide)), fun _ => ⟨A8, q8, rfl, O8⟩, fun h => c7 (h.resolve_right (by decide)), fun h => c8 (h.resolve_right (by decide)), fun h t0 => c9 (h.resolve_right (by decide)) (fun z => t0 (.inl z)), fun h => c10 (h.resolve_right (by decide)), fun h => c11 (h.resolve_right (by decide)), fun h => c12 (h.resolve_right (by decide))⟩ _ (by simp only [e5])
      apply RelH.op2
      · intro L f u K hN hS hK
        simp only [puts, Act.put, List.setIfInBounds_toArray, List.set_cons_zero, List.set_cons_succ, upd, Nat.reduceEqDiff, ↓reduceIte, if_true, if_false] at hK ⊢
        have HS9 := Lib.hid hS
        obtain ⟨qB, qE, qG, qRS, qRG, qT, c0, c1, c2, c3, c4, c5, c6, c7, c8, c9, c10, c11, c12⟩ := hS
        obtain ⟨A8, q8, A9, q9, e5, O8, O9⟩ := c5 (hN.out.2 5 (by decide +kernel))
        clear qRS qRG c0 c1 c2 c3 c4 c5 c6 c7 c8 c9 c10 c11 c12
        go_simp
        obtain ⟨qB, qE, qG, qRS, qRG, qT, c0, c1, c2, c3, c4, c5, c6, c7, c8, c9, c10, c11, c12⟩ := HS9.out
        exact hK.out _ _ ⟨qB, qE, qG, qRS, qRG, qT, fun h => c0 (h.resolve_right (by decide)), fun h t0 => c1 (h.resolve_right (by decide)) (fun z => t0 (.inl z)), fun h => c2 (h.resolve_right (by decide)), fun h t0 => c3 (h.resolve_right (by decide)) (fun z => t0 (.inl z)), fun h => c4 (h.resolve_right (by decide)), fun h => c5 (h.resolve_right (by decide)), fun h => c6 (h.resolve_right (by decide)), fun _ => ⟨A9, q9, rfl, O9⟩, fun h => c8 (h.resolve_right (by decide)), fun h t0 => c9 (h.resolve_right (by decide)) (fun z => t0 (.inl z)), fun h => c10 (h.resolve_right (by decide)), fun h => c11 (h.resolve_right (by decide)), fun h => c12 (h.resolve_right (by decide))⟩ _ (by simp only [e5])
      apply RelH.op2
      · intro L f u K hN hS hK
        simp only [puts, Act.put, List.setIfInBounds_toArray, List.set_cons_zero, List.set_cons_succ, upd, Nat.reduceEqDiff, ↓reduceIte, if_true, if_false] at hK ⊢
        have HS9 := Lib.hid hS
        obtain ⟨qB, qE, qG, qRS, qRG, qT, c0, c1, c2, c3, c4, c5, c6, c7, c8, c9, c10, c11, c12⟩ := hS
        obtain ⟨A8, q8, A9, q9, e5, O8, O9⟩ := c5 (hN.out.2 5 (by decide +kernel))
        clear qRS qRG c0 c1 c2 c3 c4 c5 c6 c7 c8 c9 c10 c11 c12
        go_simp
        obtain ⟨qB, qE, qG, qRS, qRG, qT, c0, c1, c2, c3, c4, c5, c6, c7, c8, c9, c10, c11, c12⟩ := HS9.out
        exact hK.out _ _ ⟨qB, qE, qG, qRS, qRG, qT, fun h => c0 (h.resolve_right (by decide)), fun h t0 => c1 (h.resolve_right (by decide)) (fun z => t0 (.inl z)), fun h => c2 (h.resolve_right (by decide)), fun h t0 => c3 (h.resolve_right (by decide)) (fun z => t0 (.inl z)), fun h => c4 (h.resolve_right (by decide)), fun h => c5 (h.resolve_right (by decide)), fun h => c6 (h.resolve_right (by decide)), fun h => c7 (h.resolve_right (by decide)), fun _ => rfl, fun h t0 => c9 (h.resolve_right (by decide)) (fun z => t0 (.inl z)), fun h => c10 (h.resolve_right (by decide)), fun h => c11 (h.resolve_right (by decide)), fun h => c12 (h.resolve_right (by decide))⟩ _ (by simp only [e5])
      apply RelH.op2
      · intro L f u K hN hS hK
        simp only [puts, Act.put, List.setIfInBounds_toArray, List.set_cons_zero, List.set_cons_succ, upd, Nat.reduceEqDiff, ↓reduceIte, if_true, if_false] at hK ⊢
        have HS9 := Lib.hid hS
        obtain ⟨qB, qE, qG, qRS, qRG, qT, c0, c1, c2, c3, c4, c5, c6, c7, c8, c9, c10, c11, c12⟩ := hS
        have hv : Below u.heap.size u (u.alloc (.cells #[.int .i64 0, .slice none 0 0] 27)) := al (Below.refl _ _)
        have hX := Box.new qB.below [.int .i64 0, .slice none 0 0] 27 (g := u.heap.size) rfl
        have hTB := Tb.new u #[.int .i64 0, .slice none 0 0]
        have hne : u.heap.size ≠ w.heap.size := by have := qB.there; omega
        have hne2 : u.heap.size ≠ eb := by have := qE.there; omega
        have hne3 : u.heap.size ≠ hb := by have := qG.there; omega
        have hle : V0.heap.size ≤ u.heap.size := qRS.1
        clear qRS qRG c0 c1 c2 c3 c4 c5 c6 c7 c8 c9 c10 c11 c12
        go_simp
        obtain ⟨qB, qE, qG, qRS, qRG, qT, c0, c1, c2, c3, c4, c5, c6, c7, c8, c9, c10, c11, c12⟩ := HS9.out
        exact hK.out _ _ ⟨qB.more hv, qE.more hv, qG.more hv, rdl_keep qRS hv, rdl_keep qRG hv, two_keep qT hv, fun h => c0 (h.resolve_right (by decide)), fun h t0 => (let ⟨g, e, O⟩ := (c1 (h.resolve_right (by decide)) (fun z => t0 (.inl z))); ⟨g, e, own_keep O hv⟩), fun h => c2 (h.resolve_right (by decide)), fun h t0 => (let ⟨g, e, O⟩ := (c3 (h.resolve_right (by decide)) (fun z => t0 (.inl z))); ⟨g, e, O.keep hv⟩), fun h => (let ⟨A8, q8, A9, q9, e, O8, O9⟩ := (c4 (h.resolve_right (by decide))); ⟨A8, q8, A9, q9, e, O8.keep hv, O9.keep hv⟩), fun h => (let ⟨A8, q8, A9, q9, e, O8, O9⟩ := (c5 (h.resolve_right (by decide))); ⟨A8, q8, A9, q9, e, O8.keep hv, O9.keep hv⟩), fun h => (let ⟨A8, q8, e, O8⟩ := (c6 (h.resolve_right (by decide))); ⟨A8, q8, e, O8.keep hv⟩), fun h => (let ⟨A8, q8, e, O8⟩ := (c7 (h.resolve_right (by decide))); ⟨A8, q8, e, O8.keep hv⟩), fun h => c8 (h.resolve_right (by decide)), fun _ _ => ⟨_, rfl, hne, hne2, hne3, hle, hTB, hX⟩, fun h => absurd (h.resolve_right (by decide)) (hN.out.1 10 (by decide +kernel)), fun h => (let ⟨A8, q8, e, O8⟩ := (c11 (h.resolve_right (by decide))); ⟨A8, q8, e, O8.keep hv⟩), fun h => c12 (h.resolve_right (by decide))⟩ _ rfl
      apply RelH.op2
      · intro L f u K hN hS hK
        simp only [puts, Act.put, List.setIfInBounds_toArray, List.set_cons_zero, List.set_cons_succ, upd, Nat.reduceEqDiff, ↓reduceIte, if_true, if_false] at hK ⊢
        have HS9 := Lib.hid hS
        obtain ⟨qB, qE, qG, qRS, qRG, qT, c0, c1, c2, c3, c4, c5, c6, c7, c8, c9, c10, c11, c12⟩ := hS
        obtain ⟨g, e9, hne, hne2, hne3, hle, TY, X⟩ := c9 (hN.out.2 9 (by decide +kernel)) (hN.out.1 10 (by decide +kernel))
        obtain ⟨A8, q8, e6, O8⟩ := c6 (hN.out.2 6 (by decide +kernel))
        have X_0 := X.cells 0 _ rfl
        have X_1 := X.cells 1 _ rfl
        have X_f0 := X.free 0 (by simp)
        have X_f1 := X.free 1 (by simp)
        clear qRS qRG c0 c1 c2 c3 c4 c5 c6 c7 c8 c9 c10 c11 c12
        go_simp
        obtain ⟨qB, qE, qG, qRS, qRG, qT, c0, c1, c2, c3, c4, c5, c6, c7, c8, c9, c10, c11, c12⟩ := HS9.out
        exact hK.out undef _ ⟨(qB.far X.base hne 0 _).far X.base hne 1 _, (qE.far X.base hne2 0 _).far X.base hne2 1 _, (qG.far X.base hne3 0 _).far X.base hne3 1 _, rdl_far2 qRS hle _ _, rdl_far2 qRG hle _ _, two_tb2 qT TY _ _, fun h => c0 (h.resolve_right (by decide)), fun h t0 => (t0 (by simp)).elim, fun h => c2 (h.resolve_right (by decide)), fun h t0 => (t0 (by simp)).elim, fun h => (let ⟨A8, q8, A9, q9, e, O8, O9⟩ := (c4 (h.resolve_right (by decide))); ⟨A8, q8, A9, q9, e, row_tb2 O8 TY _ _, row_tb2 O9 TY _ _⟩), fun h => (let ⟨A8, q8, A9, q9, e, O8, O9⟩ := (c5 (h.resolve_right (by decide))); ⟨A8, q8, A9, q9, e, row_tb2 O8 TY _ _, row_tb2 O9 TY _ _⟩), fun h => (let ⟨A8, q8, e, O8⟩ := (c6 (h.resolve_right (by decide))); ⟨A8, q8, e, row_tb2 O8 TY _ _⟩), fun h => (let ⟨A8, q8, e, O8⟩ := (c7 (h.resolve_right (by decide))); ⟨A8, q8, e, row_tb2 O8 TY _ _⟩), fun h => c8 (h.resolve_right (by decide)), fun h t0 => (t0 (by simp)).elim, fun _ => ⟨g, A8, q8, e9, (X.set 0 (.int .i64 wv)).set 1 (.slice A8 M1.length q8), row_tb2 O8 TY _ _⟩, fun h => (let ⟨A8, q8, e, O8⟩ := (c11 (h.resolve_right (by decide))); ⟨A8, q8, e, row_tb2 O8 TY _ _⟩), fun h => c12 (h.resolve_right (by decide))⟩ _ (by simp only [e9, e6])
      apply RelH.op2
      · intro L f u K hN hS hK
        simp only [puts, Act.put, List.setIfInBounds_toArray, List.set_cons_zero, List.set_cons_succ, upd, Nat.reduceEqDiff, ↓reduceIte, if_true, if_false] at hK ⊢
        have HS9 := Lib.hid hS
        obtain ⟨qB, qE, qG, qRS, qRG, qT, c0, c1, c2, c3, c4, c5, c6, c7, c8, c9, c10, c11, c12⟩ := hS
        obtain ⟨A9, q9, e7, O9⟩ := c7 (hN.out.2 7 (by decide +kernel))
        clear qRS qRG c0 c1 c2 c3 c4 c5 c6 c7 c8 c9 c10 c11 c12
        go_simp
        obtain ⟨qB, qE, qG, qRS, qRG, qT, c0, c1, c2, c3, c4, c5, c6, c7, c8, c9, c10, c11, c12⟩ := HS9.out
        exact hK.out _ _ ⟨qB, qE, qG, qRS, qRG, qT, fun h => c0 (h.resolve_right (by decide)), fun h t0 => c1 (h.resolve_right (by decide)) (fun z => t0 (.inl z)), fun h => c2 (h.resolve_right (by decide)), fun h t0 => c3 (h.resolve_right (by decide)) (fun z => t0 (.inl z)), fun h => c4 (h.resolve_right (by decide)), fun h => c5 (h.resolve_right (by decide)), fun h => c6 (h.resolve_right (by decide)), fun h => c7 (h.resolve_right (by decide)), fun h => c8 (h.resolve_right (by decide)), fun h t0 => c9 (h.resolve_right (by decide)) (fun z => t0 (.inl z)), fun h => c10 (h.resolve_right (by decide)), fun _ => ⟨A9, q9, rfl, O9⟩, fun h => c12 (h.resolve_right (by decide))⟩ _ (by simp only [e7])
      apply RelH.op2
      · intro L f u K hN hS hK
        simp only [puts, Act.put, List.setIfInBounds_toArray, List.set_cons_zero, List.set_cons_succ, upd, Nat.reduceEqDiff, ↓reduceIte, if_true, if_false] at hK ⊢
        have HS9 := Lib.hid hS
        obtain ⟨qB, qE, qG, qRS, qRG, qT, c0, c1, c2, c3, c4, c5, c6, c7, c8, c9, c10, c11, c12⟩ := hS
        have e8 := c8 (hN.out.2 8 (by decide +kernel))
        clear qRS qRG c0 c1 c2 c3 c4 c5 c6 c7 c8 c9 c10 c11 c12
        go_simp
        obtain ⟨qB, qE, qG, qRS, qRG, qT, c0, c1, c2, c3, c4, c5, c6, c7, c8, c9, c10, c11, c12⟩ := HS9.out
        exact hK.out _ _ ⟨qB, qE, qG, qRS, qRG, qT, fun h => c0 (h.resolve_right (by decide)), fun h t0 => c1 (h.resolve_right (by decide)) (fun z => t0 (.inl z)), fun h => c2 (h.resolve_right (by decide)), fun h t0 => c3 (h.resolve_right (by decide)) (fun z => t0 (.inl z)), fun h => c4 (h.resolve_right (by decide)), fun h => c5 (h.resolve_right (by decide)), fun h => c6 (h.resolve_right (by decide)), fun h => c7 (h.resolve_right (by decide)), fun h => c8 (h.resolve_right (by decide)), fun h t0 => c9 (h.resolve_right (by decide)) (fun z => t0 (.inl z)), fun h => c10 (h.resolve_right (by decide)), fun h => c11 (h.resolve_right (by decide)), fun _ => rfl⟩ _ (by simp only [e8])
      exact RelH.done
    intro L f V1 hL hS
    simp only [puts, Act.put, List.setIfInBounds_toArray, List.set_cons_zero, List.set_cons_succ]
    obtain ⟨qB, qE, qG, qRS, qRG, qT, c0, c1, c2, c3, c4, c5, c6, c7, c8, c9, c10, c11, c12⟩ := hS
    clear B RS RG T E H
    have B := qB; clear qB
    have E := qE; clear qE
    have H := qG; clear qG
    have RS := qRS; clear qRS
    have RG := qRG; clear qRG
    have T := qT; clear qT
    obtain ⟨fb, A4, k4, e6, F, O4⟩ := c10 (hL 10 (by decide))
    obtain ⟨A5, k5, e7, O5⟩ := c11 (hL 11 (by decide))
    have e8 := c12 (hL 12 (by decide))
    simp only [e6, e7, e8]
    clear e6 e7 e8
    clear c0 c1 c2 c3 c4 c5 c6 c7 c8 c9 c10 c11 c12 hL
    have E_0 := E.cells 0 _ rfl
    have E_1 := E.cells 1 _ rfl
    have E_f0 := E.free 0 (by simp)
    have E_f1 := E.free 1 (by simp)
    have E_t := E.there
    have F_0 := F.cells 0 _ rfl
    have F_1 := F.cells 1 _ rfl
    have F_f0 := F.free 0 (by simp)
    have F_f1 := F.free 1 (by simp)
    have F_t := F.there
    go_wp2_with fail
    refine (LiqW.eq_any ⟨wv, ⟨A4, k4, M1⟩⟩ ⟨wv, ⟨A0, k0, M1⟩⟩ _ O4.rd RS.rd HM.out.1 HM.out.1).mono ?_
    rintro e v21 ⟨rfl, hv21⟩
    clear E_0 E_1 E_f0 E_f1 E_t
    clear F_0 F_1 F_f0 F_f1 F_t
    replace B := B.more hv21
    replace E := E.more hv21
    replace H := H.more hv21
    replace F := F.more hv21
    replace RS := rdl_keep RS hv21
    replace RG := rdl_keep RG hv21
    replace T := two_keep T hv21
    replace O4 := RowOwn.keep O4 hv21
    replace O5 := RowOwn.keep O5 hv21
    have zhv21 := hv21.size
    clear hv21
    have E_0 := E.cells 0 _ rfl
    have E_1 := E.cells 1 _ rfl
    have E_f0 := E.free 0 (by simp)
    have E_f1 := E.free 1 (by simp)
    have E_t := E.there
    have F_0 := F.cells 0 _ rfl
    have F_1 := F.cells 1 _ rfl
    have F_f0 := F.free 0 (by simp)
    have F_f1 := F.free 1 (by simp)
    have F_t := F.there
    rw [same_yes (x := ⟨wv, ⟨A4, k4, M1⟩⟩) (y := ⟨wv, ⟨A0, k0, M1⟩⟩) rfl rfl]
    go_wp2_with fail
    refine (SInt.eqS_any A5 A3 k5 k3 M2 M2 _ O5.rd RG.rd HM.out.2 HM.out.2).mono ?_
    rintro e v22 ⟨rfl, hv22⟩
    clear E_0 E_1 E_f0 E_f1 E_t
    clear F_0 F_1 F_f0 F_f1 F_t
    replace B := B.more hv22
    replace E := E.more hv22
    replace H := H.more hv22
    replace F := F.more hv22
    replace RS := rdl_keep RS hv22
    replace RG := rdl_keep RG hv22
    replace T := two_keep T hv22
    replace O4 := RowOwn.keep O4 hv22
    replace O5 := RowOwn.keep O5 hv22
    have zhv22 := hv22.size
    clear hv22
    have E_0 := E.cells 0 _ rfl
    have E_1 := E.cells 1 _ rfl
    have E_f0 := E.free 0 (by simp)
    have E_f1 := E.free 1 (by simp)
    have E_t := E.there
    have F_0 := F.cells 0 _ rfl
    have F_1 := F.cells 1 _ rfl
    have F_f0 := F.free 0 (by simp)
    have F_f1 := F.free 1 (by simp)
    have F_t := F.there
    rw [decide_eq_true rfl]
    have H_0 := H.cells 0 _ rfl
    have H_1 := H.cells 1 _ rfl
    have H_f0 := H.free 0 (by simp)
    have H_f1 := H.free 1 (by simp)
    have H_t := H.there
    go_wp2_with fail
    refine (LiqM.held_any wv A1 k1 1 M1.length _ T.a.rd (by omega) (by omega) (by omega)).mono ?_
    rintro e v23 ⟨rfl, hv23⟩
    clear E_0 E_1 E_f0 E_f1 E_t
    clear H_0 H_1 H_f0 H_f1 H_t
    clear F_0 F_1 F_f0 F_f1 F_t
    replace B := B.more hv23
    replace E := E.more hv23
    replace H := H.more hv23
    replace F := F.more hv23
    replace RS := rdl_keep RS hv23
    replace RG := rdl_keep RG hv23
    replace T := two_keep T hv23
    replace O4 := RowOwn.keep O4 hv23
    replace O5 := RowOwn.keep O5 hv23
    have zhv23 := hv23.size
    clear hv23
    have E_0 := E.cells 0 _ rfl
    have E_1 := E.cells 1 _ rfl
    have E_f0 := E.free 0 (by simp)
    have E_f1 := E.free 1 (by simp)
    have E_t := E.there
    have H_0 := H.cells 0 _ rfl
    have H_1 := H.cells 1 _ rfl
    have H_f0 := H.free 0 (by simp)
    have H_f1 := H.free 1 (by simp)
    have H_t := H.there
    have F_0 := F.cells 0 _ rfl
    have F_1 := F.cells 1 _ rfl
    have F_f0 := F.free 0 (by simp)
    have F_f1 := F.free 1 (by simp)
    have F_t := F.there
    go_wp2_with fail
    refine (SInt.heldS_any A2 k2 _ (1 + M1.length) M2.length _ T.b.rd (by omega) (by omega) (by omega)).mono ?_
    rintro e v24 ⟨rfl, hd⟩
    go_wp2
    go_ret
    exact ⟨rfl, be B.below (hd.below _)⟩
end Go.Proofs.Ythilbpklmjpmcaa.Laws10c
