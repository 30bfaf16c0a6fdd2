/- The draw of chapter 10: kinds. Made by tools/mk_dkind.py. -/
import Derived.Deep.Cut
import Derived.Deep.CutBlock
import Derived.Deep.CutRange
import Derived.Deep.DeepCutAuto
import Derived.Deep.RegionLawGrows
import Derived.Test.YthilbpklmjpmcaaDr
import Derived.Test.YthilbpklmjpmcaaSKind
import Derived.Test.YthilbpklmjpmcaaRegn3
namespace Go.Proofs.Ythilbpklmjpmcaa.DKind
open Go.RowKit Go.Proofs.Ythilbpklmjpmcaa.Mem Go.Proofs.Ythilbpklmjpmcaa.Base Go.Proofs.Ythilbpklmjpmcaa.Draw Go.Proofs.Ythilbpklmjpmcaa.Boxes Go.Proofs.Ythilbpklmjpmcaa.Keep Go.Proofs.Ythilbpklmjpmcaa.Dr Go.Proofs.Ythilbpklmjpmcaa.Regn Go.Proofs.Ythilbpklmjpmcaa.SKind
set_option linter.unusedVariables false
set_option linter.unusedSimpArgs false
set_option maxRecDepth 100000
theorem step_own {P : Program} {w : World} {yf : Nat → Option Bool} {o : Oper} {a : Act} {K : Act → World → Prop} {Q : Exit → Act → World → Prop} {E : Prop} (hgd : o.guard = none) (s x : Operand) (t : TypeId)
    (ho : o.op = .call { callee := .builtin .append, args := #[s, x], argTypes := #[t, t] })
    (base : Nat) (e : TypeId) (i : TypeInfo) (z : Value) (size bytes : Nat) (ht : P.underlying t = some (.slice e)) (hi : P.info? e = some i) (hz : i.zero = some z)
    (hsize : i.size = size) (hby : i.bytes = bytes) (hzs : z.cells.size = size) (hsz : 0 < size)
    (v : Value) (n : Nat) (xs : List Value) (hs : a.eval s = v) (hown : w.ownsRow base e size v n xs)
    (ad : Addr) (m c : Nat) (news : List Value) (hx : a.eval x = .slice (some ad) m c) (hl : news.length = m * size) (hnews : ∀ j u, news[j]? = some u → w.cell? (ad.add j) = some u) (h1 : ∀ u ∈ news, u.oneCell' = true)
    (h63 : n + m ≤ maxLen) (hbytes : (n + m) * bytes ≤ 140737488355328) (hbase : base ≤ w.heap.size)
    (h : ∀ v' w', w'.ownsRow base e size v' (n + m) (xs ++ news) → w.grownBy w' v.ownBlock → (v' = .slice none 0 0 ↔ v = .slice none 0 0 ∧ m = 0) → K (a.put o.dst v') w') :
    if Region.wanted o yf = true then Oper.wp P o a w K Q else E := by
  rw [if_pos (by simp [Region.wanted, hgd])]
  exact wp_append_own w s x t ho base e i z size bytes ht hi hz hsize hby hzs hsz v n xs hs hown ad m c news hx hl hnews h1 h63 hbytes hbase h

theorem lst_more {w w' : World} {g : Nat} {xs : List Value} (h : Lst w g xs) (hb : Below w.heap.size w w') : Lst w' g xs :=
  ⟨Nat.lt_of_lt_of_le h.1 hb.size, fun j v hv => by rw [(bcell hb).1 g j h.1]; exact h.2 j v hv⟩
theorem Cb.kept {g : Nat} {cs : List Value} {W V : World} {row : Option Nat} (h : Cb g cs W) (hg : W.grownBy V row) (hr : ∀ k, row = some k → g < k) : Cb g cs V := by
  have hb : V.heap[g]? = W.heap[g]? := hg.block g h.there (fun e => by have := hr g e.symm; omega)
  exact ⟨fun i v hv => (World.cell?_of_block (w := W) hb).trans (h.cells i v hv), fun i hi => (World.frozen?_of_block (w := W) hb).trans (h.free i hi), Nat.lt_of_lt_of_le h.there hg.size⟩
theorem cell_add1 (h j : Nat) : ((⟨h, 0, none⟩ : Addr).add j) = ⟨h, j, none⟩ := by
  unfold Addr.add
  split
  · rename_i e; subst e; rfl
  · simp
theorem cb_news3 {W : World} {h : Nat} {x y z : Value} (X : Cb h [x, y, z] W) : ∀ j u, [x, y, z][j]? = some u → W.cell? ((⟨h, 0, none⟩ : Addr).add j) = some u := by
  intro j u hu
  rw [cell_add1]
  exact X.cells j u hu
theorem one3 (nm : ByteArray) (a b : Int) : ∀ u ∈ [Value.string nm, .int .i64 a, .int .i64 b], u.oneCell' = true := by
  intro u hu; simp at hu; rcases hu with rfl | rfl | rfl <;> rfl
def nameL : List ByteArray := [⟨#[98, 105, 116, 116, 101, 114]⟩, ⟨#[103, 121, 112, 115]⟩, ⟨#[104, 97, 108, 105, 116, 101]⟩, ⟨#[107, 97, 108, 105]⟩, ⟨#[109, 97, 103, 110, 101, 115]⟩]
def names : List Value := [.string ⟨#[98, 105, 116, 116, 101, 114]⟩, .string ⟨#[103, 121, 112, 115]⟩, .string ⟨#[104, 97, 108, 105, 116, 101]⟩, .string ⟨#[107, 97, 108, 105]⟩, .string ⟨#[109, 97, 103, 110, 101, 115]⟩]
theorem names_eq : names = nameL.map Value.string := rfl
def badL : List ByteArray := [⟨#[]⟩, ⟨#[83, 97, 108, 116]⟩, ⟨#[122, 122, 122]⟩, ⟨#[97, 98, 99, 100, 101, 102, 103, 104, 105, 106, 107]⟩]
theorem name_size : ∀ x ∈ nameL, x.size ≤ 11 := by decide
theorem bad_size : ∀ x ∈ badL, x.size ≤ 11 := by decide
theorem name_at {k : Nat} (h : k < 5) : ∃ nm : ByteArray, names[k]? = some (.string nm) ∧ nm.size ≤ 11 := by
  have hl : k < nameL.length := h
  exact ⟨nameL[k], by rw [names_eq]; simp [hl], name_size _ (List.getElem_mem hl)⟩
/-- the names, the list so far. -/
structure Kd (B : Nat) (zs : List Int) (p K : Nat) (w : World) (gN g c : Nat) (L : List R) (W : World) : Prop where
  C : Cu B zs p K W
  GW : w.grownBy W (some p)
  N : Cb gN names W
  O : W.ownsRow (gN + 1) 37 3 (.slice (some ⟨g, 0, none⟩) L.length c) L.length (flat L)
  o0 : p < w.heap.size
  o1 : w.heap.size ≤ gN
  nm : ∀ x ∈ L, x.f0.size ≤ 11
variable {B : Nat} {zs : List Int} {p K : Nat} {w : World} {gN g c : Nat} {L : List R} {W : World}
theorem Kd.alloc (h : Kd B zs p K w gN g c L W) (o : Obj) : Kd B zs p K w gN g c L (W.alloc o) :=
  ⟨h.C.alloc o, grown_trans h.GW (grown_alloc _ _ _), h.N.alloc o, own_keep h.O (al (Below.refl _ _)), h.o0, h.o1, h.nm⟩
theorem Kd.went {K' : Nat} {V : World} (h : Kd B zs p K w gN g c L W) (C : Cu B zs p K' V) (G : W.grownBy V (some p)) : Kd B zs p K' w gN g c L V := by
  have h0 := h.o0; have h1 := h.o1
  exact ⟨C, grown_trans h.GW G, h.N.went G (by omega), own_grown h.O G (fun k hk => by injection hk with hk; omega), h0, h1, h.nm⟩
theorem Kd.le {K' : Nat} (h : Kd B zs p K w gN g c L W) (hk : K ≤ K') : Kd B zs p K' w gN g c L W := ⟨h.C.le hk, h.GW, h.N, h.O, h.o0, h.o1, h.nm⟩
theorem Kd.among (h : Kd B zs p K w gN g c L W) (hK : K ≤ 900000000) (xs : List Int) (c' : Nat) (hx0 : 1 ≤ xs.length) (hx1 : xs.length ≤ 65536) {k : Nat} (hk : k = W.heap.size) :
    Calls Try.prog 63 #[.pointer (some ⟨p, 0, none⟩), .slice (some ⟨k, 0, none⟩) xs.length c'] (W.alloc (.cells (xs.map (Value.int .i64)).toArray 3)) fun e V => ∃ x, x ∈ xs ∧ e = .returned (.int .i64 x) ∧ Kd B zs p (K + 2) w gN g c L V := by
  have h0 := h.o0; have h1 := h.o1; have h3 := h.N.there
  have ha := h.alloc (.cells (xs.map (Value.int .i64)).toArray 3)
  refine (among_d B zs p K _ k c' xs ha.C hK (lst_at W _ _ hk) (by omega) hx0 hx1).mono ?_
  rintro e V ⟨x, hx, rfl, C, G⟩
  exact ⟨x, hx, rfl, ha.went C G⟩
theorem Kd.pick (h : Kd B zs p K w gN g c L W) (hK : K ≤ 900000000) (n : Int) (hn : 1 ≤ n) (hn1 : n ≤ 65536) :
    Calls Try.prog 86 #[.pointer (some ⟨p, 0, none⟩), .int .i64 n] W fun e V => ∃ x : Int, (0 ≤ x ∧ x < n) ∧ e = .returned (.int .i64 x) ∧ Kd B zs p (K + 2) w gN g c L V := by
  refine (pick_d B zs p K W n h.C hK hn hn1).mono ?_
  rintro e V ⟨x, hx, rfl, C, G⟩
  exact ⟨x, hx, rfl, h.went C G⟩
theorem Kd.one (h : Kd B zs p K w gN g c L W) (hK : K ≤ 900000000) (n : Int) (hn : 1 ≤ n) (hn1 : n ≤ 65536) :
    Calls Try.prog 85 #[.pointer (some ⟨p, 0, none⟩), .int .i64 n] W fun e V => ∃ q : Bool, e = .returned (.bool q) ∧ Kd B zs p (K + 2) w gN g c L V := by
  refine (one_d B zs p K W n h.C hK hn hn1).mono ?_
  rintro e V ⟨x, rfl, C, G⟩
  exact ⟨x, rfl, h.went C G⟩
theorem Kd.of (h : Kd B zs p K w gN g c L W) (hK : K ≤ 900000000) (c' : Nat) {k : Nat} (hk : k = W.heap.size) :
    Calls Try.prog 87 #[.pointer (some ⟨p, 0, none⟩), .slice (some ⟨k, 0, none⟩) 4 c'] (W.alloc (.cells (badL.map Value.string).toArray 9)) fun e V => ∃ x : ByteArray, x.size ≤ 11 ∧ e = .returned (.string x) ∧ Kd B zs p (K + 2) w gN g c L V := by
  have h0 := h.o0; have h1 := h.o1; have h3 := h.N.there
  have ha := h.alloc (.cells (badL.map Value.string).toArray 9)
  obtain ⟨q, hq, hc⟩ := ha.C
  refine (of_any B zs _ p q k c' badL hc (by omega) (by rw [hk]; exact lst_new W (badL.map Value.string) _) (by omega) (by decide) (by decide)).mono ?_
  rintro e V ⟨⟨x, hx, rfl⟩, ⟨⟨q', hq', hc'⟩, G⟩⟩
  exact ⟨x, bad_size x hx, rfl, ha.went ⟨q', by omega, hc'⟩ G⟩
theorem own_low {w : World} {base : Nat} {e : TypeId} {size n : Nat} {v : Value} {xs : List Value} (h : w.ownsRow base e size v n xs) {k : Nat} (hk : k < base) (i : Nat) (x : Value) : (w.setCell ⟨k, i, none⟩ x).ownsRow base e size v n xs := by
  refine ⟨h.1, ?_⟩
  rcases h.2 with h2 | ⟨g, cap, cur, rfl, hg, hh, r⟩
  · exact .inl h2
  · exact .inr ⟨g, cap, cur, rfl, hg, by rw [Below.heap_setCell w ⟨k, i, none⟩ x g (by show g ≠ k; omega)]; exact hh, r⟩
/-- one cell of the first kind is written. -/
theorem Kd.put {x : R} {r : List R} (h : Kd B zs p K w gN g c (x :: r) W) (i : Nat) (v : Value) (y : R) (hy : (flat (x :: r)).set i v = flat (y :: r)) (hz : y.f0.size ≤ 11) : Kd B zs p K w gN g c (y :: r) (W.setCell ⟨g, i, none⟩ v) := by
  have h0 := h.o0; have h1 := h.o1
  have hg := own_ge h.O g rfl
  have hB := h.C.base
  refine ⟨h.C.set (g := g) (by omega) (by omega) i v, grown_set h.GW (g := g) (by omega) i v, h.N.far (k := g) (by omega) i v, ?_, h0, h1, fun z hm => ?_⟩
  · have := (h.O.stored i v).1
    rw [hy] at this
    exact this
  · rcases List.mem_cons.1 hm with rfl | hm
    · exact hz
    · exact h.nm z (List.mem_cons_of_mem _ hm)
/-- kinds in new memory. -/
def KPost (B : Nat) (zs : List Int) (p K : Nat) (w : World) (e : Ending) (w' : World) : Prop :=
  ∃ (L : List R) (g c : Nat), L.length ≤ 5 ∧ (∀ x ∈ L, x.f0.size ≤ 11) ∧ e = .returned (.slice (some ⟨g, 0, none⟩) L.length c) ∧ w'.ownsRow w.heap.size 37 3 (.slice (some ⟨g, 0, none⟩) L.length c) L.length (flat L) ∧ Cu B zs p K w' ∧ w.grownBy w' (some p)
theorem Kd.post {K' : Nat} (h : Kd B zs p K w gN g c L W) (hl : L.length ≤ 5) (hk : K ≤ K') : KPost B zs p K' w (.returned (.slice (some ⟨g, 0, none⟩) L.length c)) W :=
  ⟨L, g, c, hl, h.nm, rfl, own_base h.O (by have := h.o1; omega), h.C.le hk, h.GW⟩
theorem Kd.cell0 {x : R} {r : List R} (h : Kd B zs p K w gN g c (x :: r) W) : W.cell? ⟨g, 0, none⟩ = some (.string x.f0) ∧ W.cell? ⟨g, 1, none⟩ = some (.int .i64 x.f1) ∧ W.cell? ⟨g, 2, none⟩ = some (.int .i64 x.f2) := by
  refine ⟨(h.O.cellAt 0 (by simp <;> omega)).trans ?_, (h.O.cellAt 1 (by simp <;> omega)).trans ?_, (h.O.cellAt 2 (by simp <;> omega)).trans ?_⟩ <;> simp [flat, R.cells]
theorem Kd.fresh (h : Kd B zs p K w gN g c L W) : Kd B zs p K w gN W.heap.size 0 [] (W.alloc (.cells #[] 37)) := by
  have h3 := h.N.there
  refine ⟨h.C.alloc _, grown_trans h.GW (grown_alloc _ _ _), h.N.alloc _, ?_, h.o0, h.o1, fun x hx => by cases hx⟩
  exact World.ownsRow_made (e := 37) (size := 3) (base := gN + 1) W #[] 0 (by omega) (by unfold maxLen; omega) rfl
theorem own_some0 {w : World} {base : Nat} {e : TypeId} {size n : Nat} {v : Value} {xs : List Value} (h : w.ownsRow base e size v (n + 1) xs) : ∃ g c, v = .slice (some ⟨g, 0, none⟩) (n + 1) c := by
  rcases h.2 with ⟨_, h1⟩ | ⟨g, cap, cur, h1, _⟩
  · omega
  · exact ⟨g, cap, h1⟩
set_option maxHeartbeats 6400000 in
theorem kinds_d (B : Nat) (zs : List Int) (p K : Nat) (w : World) (C : Cu B zs p K w) (hK : K ≤ 700000000) :
    Calls Try.prog 61 #[.pointer (some ⟨p, 0, none⟩)] w (KPost B zs p (K + 100) w) := by
  obtain ⟨i0, hi0, hz0, hz1, hz2⟩ := info_parts info_T
  have HI := Lib.hid hz2; clear hz2
  have HI1 := Lib.hid hz1; clear hz1
  have hp0 := C.lt
  have H0 : Kd B zs p K w w.heap.size (w.heap.size + 1) 0 [] ((w.alloc (.cells names.toArray 9)).alloc (.cells #[] 37)) := by
    refine ⟨(C.alloc _).alloc _, grown_trans (grown_alloc _ _ _) (grown_alloc _ _ _), (Cb.new w names 9 rfl).alloc _, ?_, hp0, Nat.le_refl _, fun x hx => by cases hx⟩
    have := World.ownsRow_made (e := 37) (size := 3) (base := w.heap.size + 1) (w.alloc (.cells names.toArray 9)) #[] 0 (by rw [size_alloc']; omega) (by unfold maxLen; omega) rfl
    rw [size_alloc'] at this
    exact this
  unfold names at H0
  have HP := Lib.hid H0
  clear H0 C
  go_enter Try.func61, Try.ntmps61
  go_upto_region 3 with fail
  obtain ⟨gN, hgN⟩ : ∃ g, w.heap.size = g := ⟨_, rfl⟩
  have hszN : (w.alloc (.cells names.toArray 9)).heap.size = gN + 1 := by rw [size_alloc', hgN]
  unfold names at hszN
  simp only [hszN, hgN] at HP ⊢
  obtain ⟨W, hW⟩ : ∃ W, (w.alloc (.cells #[.string ⟨#[98, 105, 116, 116, 101, 114]⟩, .string ⟨#[103, 121, 112, 115]⟩, .string ⟨#[104, 97, 108, 105, 116, 101]⟩, .string ⟨#[107, 97, 108, 105]⟩, .string ⟨#[109, 97, 103, 110, 101, 115]⟩] 9)).alloc (.cells #[] 37) = W := ⟨_, rfl⟩
  rw [hW] at HP ⊢
  clear hW hszN
  go_loopw [4, 5] (fun oo kv wr => ∃ (k g c : Nat) (L : List R), k ≤ 5 ∧ kv = .int .i64 k ∧ oo = .slice (some ⟨g, 0, none⟩) L.length c ∧ Hid (L.length ≤ k) ∧ Hid (3 ≤ k → 1 ≤ L.length) ∧ Hid (Kd B zs p (K + 6 * k) w gN g c L wr)) (fun _ kv _ => 13 - (intOf kv).toNat)
  case atStart => exact ⟨0, _, _, [], by omega, rfl, rfl, Lib.hid (by simp), Lib.hid (fun h => by omega), HP⟩
  case round =>
    clear HP
    obtain ⟨k9, g, kA, S9, hk, rfl, rfl, HLn, HL3, HP⟩ := hrel
    by_cases hgo : k9 < 5
    · have d1 : decide ((k9 : Int) < 5) = true := decide_eq_true (by omega)
      go_wp2_with fail
      refine (HP.out.one (by omega) 2 (by omega) (by omega)).mono ?_
      rintro e V1 ⟨q, rfl, hp1⟩
      replace HP := Lib.hid hp1; clear hp1
      cases q
      · by_cases h2 : k9 = 2
        · subst h2
          go_upto_region 6 with fail
          have hS5 : S9.length ≤ 5 := by have := HLn.out; omega
          have HPP := HP
          obtain ⟨C, GW, N, O, o0, o1, hn11⟩ := HP.out
          obtain ⟨K1, hK1⟩ : ∃ k', K + 6 * 2 + 2 = k' := ⟨_, rfl⟩
          have hK1b : K1 ≤ 800000000 := by omega
          rw [hK1] at C
          have hB := C.base
          obtain ⟨nm, hnm, hns⟩ := name_at (k := 2) (by omega)
          have own0 := own_ge O g rfl
          refine wp_region_rel0 [20, 21, 22, 23, 24, 25, 26, 27, 28, 29, 30, 31, 32, 33, 4] (fun L f w' => (Cb gN names w') ∧ (¬ L 7 → Cu B zs p K1 w') ∧ (L 7 → ¬ L 10 → Cu B zs p (K1 + 2) w') ∧ (L 10 → Cu B zs p (K1 + 4) w') ∧ (w.grownBy w' (some p)) ∧ (¬ L 14 → f 4 = .slice (some ⟨g, 0, none⟩) S9.length kA) ∧ (¬ L 13 → w'.ownsRow (gN + 1) 37 3 (.slice (some ⟨g, 0, none⟩) S9.length kA) S9.length (flat S9)) ∧ (L 0 → f 20 = .slice (some ⟨g, 0, none⟩) S9.length kA) ∧ (L 1 → f 21 = .slice (some ⟨gN, 0, none⟩) 5 5) ∧ (L 2 → f 22 = .int .i64 2) ∧ (L 3 → f 23 = .pointer (some ⟨gN, 2, none⟩)) ∧ (L 4 → f 24 = .string nm) ∧ (L 5 → f 25 = .pointer (some ⟨p, 0, none⟩)) ∧ (L 6 → ¬ L 7 → ∃ gl, f 26 = .slice (some ⟨gl, 0, none⟩) 5 5 ∧ gl ≠ p ∧ Lst w' gl (([0, 0, 2, 5, 9] : List Int).map (Value.int .i64))) ∧ (L 7 → ∃ m : Int, f 27 = .int .i64 m) ∧ (L 8 → f 28 = .pointer (some ⟨p, 0, none⟩)) ∧ (L 9 → ¬ L 10 → ∃ gl, f 29 = .slice (some ⟨gl, 0, none⟩) 6 6 ∧ gl ≠ p ∧ Lst w' gl (([2, 100, 350, 360, 700, 1000] : List Int).map (Value.int .i64))) ∧ (L 10 → ∃ m : Int, f 30 = .int .i64 m) ∧ (L 11 → ∃ a b : Int, f 31 = .agg #[.string nm, .int .i64 a, .int .i64 b]) ∧ (L 12 → ¬ L 13 → ∃ (h9 : Nat) (a b : Int), f 32 = .slice (some ⟨h9, 0, none⟩) 1 1 ∧ Cb h9 [.string nm, .int .i64 a, .int .i64 b] w') ∧ (L 13 → ∃ (A2 : Option Addr) (kB : Nat) (a b : Int), f 33 = .slice A2 (S9.length + 1) kB ∧ w'.ownsRow (gN + 1) 37 3 (.slice A2 (S9.length + 1) kB) (S9.length + 1) (flat S9 ++ [.string nm, .int .i64 a, .int .i64 b])) ∧ (L 14 → ∃ (A2 : Option Addr) (kB : Nat) (a b : Int), f 4 = .slice A2 (S9.length + 1) kB ∧ w'.ownsRow (gN + 1) 37 3 (.slice A2 (S9.length + 1) kB) (S9.length + 1) (flat S9 ++ [.string nm, .int .i64 a, .int .i64 b]))) (by kernel_rfl) (by kernel_rfl) (by kernel_rfl) ⟨N.more (Below.refl _ _).drew, fun _ => C.more (Below.refl _ _).drew, fun h => h.elim, fun h => h.elim, grown_more GW (Below.refl _ _).drew, fun _ => rfl, fun _ => own_keep O (Below.refl _ _).drew, fun h => h.elim, fun h => h.elim, fun h => h.elim, fun h => h.elim, fun h => h.elim, fun h => h.elim, fun h => h.elim, fun h => h.elim, fun h => h.elim, fun h => h.elim, fun h => h.elim, fun h => h.elim, fun h => h.elim, fun h => h.elim, fun h => h.elim⟩ ?_ ?_
          · apply RelH.op2
            · intro L f u K hN hS hK
              simp only [puts, Act.put, List.setIfInBounds_toArray, List.set_cons_zero, List.set_cons_succ, upd, Nat.reduceEqDiff, ↓reduceIte, if_true, if_false] at hK ⊢
              have HS9 := Lib.hid hS
              obtain ⟨qN, qC, qC1, qC2, qGW, qF, qO, c0, c1, c2, c3, c4, c5, c6, c7, c8, c9, c10, c11, c12, c13, c14⟩ := hS
              have e4s := qF (hN.out.1 14 (by decide +kernel))
              clear qC qC1 qC2 qF qO c0 c1 c2 c3 c4 c5 c6 c7 c8 c9 c10 c11 c12 c13 c14
              go_simp
              obtain ⟨qN, qC, qC1, qC2, qGW, qF, qO, c0, c1, c2, c3, c4, c5, c6, c7, c8, c9, c10, c11, c12, c13, c14⟩ := HS9.out
              exact hK.out _ _ ⟨qN, fun z9 => qC (fun z => z9 (.inl z)), fun z8 z9 => qC1 (z8.resolve_right (by decide)) (fun z => z9 (.inl z)), fun z8 => qC2 (z8.resolve_right (by decide)), qGW, fun z9 => qF (fun z => z9 (.inl z)), fun z9 => qO (fun z => z9 (.inl z)), fun _ => rfl, fun h => c1 (h.resolve_right (by decide)), fun h => c2 (h.resolve_right (by decide)), fun h => c3 (h.resolve_right (by decide)), fun h => c4 (h.resolve_right (by decide)), fun h => c5 (h.resolve_right (by decide)), fun h t0 => c6 (h.resolve_right (by decide)) (fun z => t0 (.inl z)), fun h => c7 (h.resolve_right (by decide)), fun h => c8 (h.resolve_right (by decide)), fun h t0 => c9 (h.resolve_right (by decide)) (fun z => t0 (.inl z)), fun h => c10 (h.resolve_right (by decide)), fun h => c11 (h.resolve_right (by decide)), fun h t0 => c12 (h.resolve_right (by decide)) (fun z => t0 (.inl z)), fun h => c13 (h.resolve_right (by decide)), fun h => c14 (h.resolve_right (by decide))⟩ _ (by simp only [e4s] <;> rfl)
            apply RelH.op2
            · intro L f u K hN hS hK
              simp only [puts, Act.put, List.setIfInBounds_toArray, List.set_cons_zero, List.set_cons_succ, upd, Nat.reduceEqDiff, ↓reduceIte, if_true, if_false] at hK ⊢
              have HS9 := Lib.hid hS
              obtain ⟨qN, qC, qC1, qC2, qGW, qF, qO, c0, c1, c2, c3, c4, c5, c6, c7, c8, c9, c10, c11, c12, c13, c14⟩ := hS
              clear qC qC1 qC2 qF qO c0 c1 c2 c3 c4 c5 c6 c7 c8 c9 c10 c11 c12 c13 c14
              go_simp
              obtain ⟨qN, qC, qC1, qC2, qGW, qF, qO, c0, c1, c2, c3, c4, c5, c6, c7, c8, c9, c10, c11, c12, c13, c14⟩ := HS9.out
              exact hK.out _ _ ⟨qN, fun z9 => qC (fun z => z9 (.inl z)), fun z8 z9 => qC1 (z8.resolve_right (by decide)) (fun z => z9 (.inl z)), fun z8 => qC2 (z8.resolve_right (by decide)), qGW, fun z9 => qF (fun z => z9 (.inl z)), fun z9 => qO (fun z => z9 (.inl z)), fun h => c0 (h.resolve_right (by decide)), fun _ => rfl, fun h => c2 (h.resolve_right (by decide)), fun h => c3 (h.resolve_right (by decide)), fun h => c4 (h.resolve_right (by decide)), fun h => c5 (h.resolve_right (by decide)), fun h t0 => c6 (h.resolve_right (by decide)) (fun z => t0 (.inl z)), fun h => c7 (h.resolve_right (by decide)), fun h => c8 (h.resolve_right (by decide)), fun h t0 => c9 (h.resolve_right (by decide)) (fun z => t0 (.inl z)), fun h => c10 (h.resolve_right (by decide)), fun h => c11 (h.resolve_right (by decide)), fun h t0 => c12 (h.resolve_right (by decide)) (fun z => t0 (.inl z)), fun h => c13 (h.resolve_right (by decide)), fun h => c14 (h.resolve_right (by decide))⟩ _ rfl
            apply RelH.op2
            · intro L f u K hN hS hK
              simp only [puts, Act.put, List.setIfInBounds_toArray, List.set_cons_zero, List.set_cons_succ, upd, Nat.reduceEqDiff, ↓reduceIte, if_true, if_false] at hK ⊢
              have HS9 := Lib.hid hS
              obtain ⟨qN, qC, qC1, qC2, qGW, qF, qO, c0, c1, c2, c3, c4, c5, c6, c7, c8, c9, c10, c11, c12, c13, c14⟩ := hS
              clear qC qC1 qC2 qF qO c0 c1 c2 c3 c4 c5 c6 c7 c8 c9 c10 c11 c12 c13 c14
              go_simp
              obtain ⟨qN, qC, qC1, qC2, qGW, qF, qO, c0, c1, c2, c3, c4, c5, c6, c7, c8, c9, c10, c11, c12, c13, c14⟩ := HS9.out
              exact hK.out _ _ ⟨qN, fun z9 => qC (fun z => z9 (.inl z)), fun z8 z9 => qC1 (z8.resolve_right (by decide)) (fun z => z9 (.inl z)), fun z8 => qC2 (z8.resolve_right (by decide)), qGW, fun z9 => qF (fun z => z9 (.inl z)), fun z9 => qO (fun z => z9 (.inl z)), fun h => c0 (h.resolve_right (by decide)), fun h => c1 (h.resolve_right (by decide)), fun _ => rfl, fun h => c3 (h.resolve_right (by decide)), fun h => c4 (h.resolve_right (by decide)), fun h => c5 (h.resolve_right (by decide)), fun h t0 => c6 (h.resolve_right (by decide)) (fun z => t0 (.inl z)), fun h => c7 (h.resolve_right (by decide)), fun h => c8 (h.resolve_right (by decide)), fun h t0 => c9 (h.resolve_right (by decide)) (fun z => t0 (.inl z)), fun h => c10 (h.resolve_right (by decide)), fun h => c11 (h.resolve_right (by decide)), fun h t0 => c12 (h.resolve_right (by decide)) (fun z => t0 (.inl z)), fun h => c13 (h.resolve_right (by decide)), fun h => c14 (h.resolve_right (by decide))⟩ _ rfl
            apply RelH.op2
            · intro L f u K hN hS hK
              simp only [puts, Act.put, List.setIfInBounds_toArray, List.set_cons_zero, List.set_cons_succ, upd, Nat.reduceEqDiff, ↓reduceIte, if_true, if_false] at hK ⊢
              have HS9 := Lib.hid hS
              obtain ⟨qN, qC, qC1, qC2, qGW, qF, qO, c0, c1, c2, c3, c4, c5, c6, c7, c8, c9, c10, c11, c12, c13, c14⟩ := hS
              have e1 := c1 (hN.out.2 1 (by decide +kernel))
              have e2 := c2 (hN.out.2 2 (by decide +kernel))
              have hk5i : (2 : Int) < 5 := by omega
              clear qC qC1 qC2 qF qO c0 c1 c2 c3 c4 c5 c6 c7 c8 c9 c10 c11 c12 c13 c14
              go_simp
              obtain ⟨qN, qC, qC1, qC2, qGW, qF, qO, c0, c1, c2, c3, c4, c5, c6, c7, c8, c9, c10, c11, c12, c13, c14⟩ := HS9.out
              exact hK.out _ _ ⟨qN, fun z9 => qC (fun z => z9 (.inl z)), fun z8 z9 => qC1 (z8.resolve_right (by decide)) (fun z => z9 (.inl z)), fun z8 => qC2 (z8.resolve_right (by decide)), qGW, fun z9 => qF (fun z => z9 (.inl z)), fun z9 => qO (fun z => z9 (.inl z)), fun h => c0 (h.resolve_right (by decide)), fun h => c1 (h.resolve_right (by decide)), fun h => c2 (h.resolve_right (by decide)), fun _ => rfl, fun h => c4 (h.resolve_right (by decide)), fun h => c5 (h.resolve_right (by decide)), fun h t0 => c6 (h.resolve_right (by decide)) (fun z => t0 (.inl z)), fun h => c7 (h.resolve_right (by decide)), fun h => c8 (h.resolve_right (by decide)), fun h t0 => c9 (h.resolve_right (by decide)) (fun z => t0 (.inl z)), fun h => c10 (h.resolve_right (by decide)), fun h => c11 (h.resolve_right (by decide)), fun h t0 => c12 (h.resolve_right (by decide)) (fun z => t0 (.inl z)), fun h => c13 (h.resolve_right (by decide)), fun h => c14 (h.resolve_right (by decide))⟩ _ (by simp only [e1, e2] <;> rfl)
            apply RelH.op2
            · intro L f u K hN hS hK
              simp only [puts, Act.put, List.setIfInBounds_toArray, List.set_cons_zero, List.set_cons_succ, upd, Nat.reduceEqDiff, ↓reduceIte, if_true, if_false] at hK ⊢
              have HS9 := Lib.hid hS
              obtain ⟨qN, qC, qC1, qC2, qGW, qF, qO, c0, c1, c2, c3, c4, c5, c6, c7, c8, c9, c10, c11, c12, c13, c14⟩ := hS
              have e3 := c3 (hN.out.2 3 (by decide +kernel))
              have X_s := qN.cells 2 _ hnm
              clear qC qC1 qC2 qF qO c0 c1 c2 c3 c4 c5 c6 c7 c8 c9 c10 c11 c12 c13 c14
              go_simp
              obtain ⟨qN, qC, qC1, qC2, qGW, qF, qO, c0, c1, c2, c3, c4, c5, c6, c7, c8, c9, c10, c11, c12, c13, c14⟩ := HS9.out
              exact hK.out _ _ ⟨qN, fun z9 => qC (fun z => z9 (.inl z)), fun z8 z9 => qC1 (z8.resolve_right (by decide)) (fun z => z9 (.inl z)), fun z8 => qC2 (z8.resolve_right (by decide)), qGW, fun z9 => qF (fun z => z9 (.inl z)), fun z9 => qO (fun z => z9 (.inl z)), fun h => c0 (h.resolve_right (by decide)), fun h => c1 (h.resolve_right (by decide)), fun h => c2 (h.resolve_right (by decide)), fun h => c3 (h.resolve_right (by decide)), fun _ => rfl, fun h => c5 (h.resolve_right (by decide)), fun h t0 => c6 (h.resolve_right (by decide)) (fun z => t0 (.inl z)), fun h => c7 (h.resolve_right (by decide)), fun h => c8 (h.resolve_right (by decide)), fun h t0 => c9 (h.resolve_right (by decide)) (fun z => t0 (.inl z)), fun h => c10 (h.resolve_right (by decide)), fun h => c11 (h.resolve_right (by decide)), fun h t0 => c12 (h.resolve_right (by decide)) (fun z => t0 (.inl z)), fun h => c13 (h.resolve_right (by decide)), fun h => c14 (h.resolve_right (by decide))⟩ _ (by simp only [e3] <;> rfl)
            apply RelH.op2
            · intro L f u K hN hS hK
              simp only [puts, Act.put, List.setIfInBounds_toArray, List.set_cons_zero, List.set_cons_succ, upd, Nat.reduceEqDiff, ↓reduceIte, if_true, if_false] at hK ⊢
              have HS9 := Lib.hid hS
              obtain ⟨qN, qC, qC1, qC2, qGW, qF, qO, c0, c1, c2, c3, c4, c5, c6, c7, c8, c9, c10, c11, c12, c13, c14⟩ := hS
              clear qC qC1 qC2 qF qO c0 c1 c2 c3 c4 c5 c6 c7 c8 c9 c10 c11 c12 c13 c14
              go_simp
              obtain ⟨qN, qC, qC1, qC2, qGW, qF, qO, c0, c1, c2, c3, c4, c5, c6, c7, c8, c9, c10, c11, c12, c13, c14⟩ := HS9.out
              exact hK.out _ _ ⟨qN, fun z9 => qC (fun z => z9 (.inl z)), fun z8 z9 => qC1 (z8.resolve_right (by decide)) (fun z => z9 (.inl z)), fun z8 => qC2 (z8.resolve_right (by decide)), qGW, fun z9 => qF (fun z => z9 (.inl z)), fun z9 => qO (fun z => z9 (.inl z)), fun h => c0 (h.resolve_right (by decide)), fun h => c1 (h.resolve_right (by decide)), fun h => c2 (h.resolve_right (by decide)), fun h => c3 (h.resolve_right (by decide)), fun h => c4 (h.resolve_right (by decide)), fun _ => rfl, fun h t0 => c6 (h.resolve_right (by decide)) (fun z => t0 (.inl z)), fun h => c7 (h.resolve_right (by decide)), fun h => c8 (h.resolve_right (by decide)), fun h t0 => c9 (h.resolve_right (by decide)) (fun z => t0 (.inl z)), fun h => c10 (h.resolve_right (by decide)), fun h => c11 (h.resolve_right (by decide)), fun h t0 => c12 (h.resolve_right (by decide)) (fun z => t0 (.inl z)), fun h => c13 (h.resolve_right (by decide)), fun h => c14 (h.resolve_right (by decide))⟩ _ rfl
            apply RelH.op2
            · intro L f u K hN hS hK
              simp only [puts, Act.put, List.setIfInBounds_toArray, List.set_cons_zero, List.set_cons_succ, upd, Nat.reduceEqDiff, ↓reduceIte, if_true, if_false] at hK ⊢
              have HS9 := Lib.hid hS
              obtain ⟨qN, qC, qC1, qC2, qGW, qF, qO, c0, c1, c2, c3, c4, c5, c6, c7, c8, c9, c10, c11, c12, c13, c14⟩ := hS
              have hT := lst_at u [Value.int .i64 0, Value.int .i64 0, Value.int .i64 2, Value.int .i64 5, Value.int .i64 9] 3 (g := u.heap.size) rfl
              have hpu : p < u.heap.size := by have := qN.there; omega
              clear qC qC1 qC2 qF qO c0 c1 c2 c3 c4 c5 c6 c7 c8 c9 c10 c11 c12 c13 c14
              go_simp
              obtain ⟨qN, qC, qC1, qC2, qGW, qF, qO, c0, c1, c2, c3, c4, c5, c6, c7, c8, c9, c10, c11, c12, c13, c14⟩ := HS9.out
              exact hK.out _ _ ⟨qN.alloc _, fun z9 => (qC (fun z => z9 (.inl z))).alloc _, fun z8 z9 => (qC1 (z8.resolve_right (by decide)) (fun z => z9 (.inl z))).alloc _, fun z8 => (qC2 (z8.resolve_right (by decide))).alloc _, grown_trans qGW (grown_alloc _ _ _), fun z9 => qF (fun z => z9 (.inl z)), fun z9 => own_keep (qO (fun z => z9 (.inl z))) (al (Below.refl _ _)), fun h => c0 (h.resolve_right (by decide)), fun h => c1 (h.resolve_right (by decide)), fun h => c2 (h.resolve_right (by decide)), fun h => c3 (h.resolve_right (by decide)), fun h => c4 (h.resolve_right (by decide)), fun h => c5 (h.resolve_right (by decide)), fun _ _ => ⟨_, rfl, by omega, hT⟩, fun h => c7 (h.resolve_right (by decide)), fun h => c8 (h.resolve_right (by decide)), fun h t0 => (let ⟨gl, h1, h2, T⟩ := (c9 (h.resolve_right (by decide)) (fun z => t0 (.inl z))); ⟨gl, h1, h2, lst_more T (al (Below.refl _ _))⟩), fun h => c10 (h.resolve_right (by decide)), fun h => c11 (h.resolve_right (by decide)), fun h t0 => absurd (h.resolve_right (by decide)) (hN.out.1 12 (by decide +kernel)), fun h => absurd (h.resolve_right (by decide)) (hN.out.1 13 (by decide +kernel)), fun h => absurd (h.resolve_right (by decide)) (hN.out.1 14 (by decide +kernel))⟩ _ rfl
            apply RelH.op2
            · intro L f u K hN hS hK
              simp only [puts, Act.put, List.setIfInBounds_toArray, List.set_cons_zero, List.set_cons_succ, upd, Nat.reduceEqDiff, ↓reduceIte, if_true, if_false] at hK ⊢
              have HS9 := Lib.hid hS
              obtain ⟨qN, qC, qC1, qC2, qGW, qF, qO, c0, c1, c2, c3, c4, c5, c6, c7, c8, c9, c10, c11, c12, c13, c14⟩ := hS
              have e5 := c5 (hN.out.2 5 (by decide +kernel))
              obtain ⟨gl, e6, h6, T⟩ := c6 (hN.out.2 6 (by decide +kernel)) (hN.out.1 7 (by decide +kernel))
              have HCON := Lib.hid (among_d B zs p K1 u gl 5 [0, 0, 2, 5, 9] (qC (hN.out.1 7 (by decide +kernel))) (by omega) T h6 (by simp) (by simp))
              clear qC qC1 qC2 qF qO c0 c1 c2 c3 c4 c5 c6 c7 c8 c9 c10 c11 c12 c13 c14
              go_simp
              go_at_call 63
              refine HCON.out.mono ?_
              rintro e uw1 ⟨m, hm, rfl, C9, G⟩
              go_wp2_with fail
              obtain ⟨qN, qC, qC1, qC2, qGW, qF, qO, c0, c1, c2, c3, c4, c5, c6, c7, c8, c9, c10, c11, c12, c13, c14⟩ := HS9.out
              exact hK.out _ _ ⟨qN.went G (by omega), fun z9 => (z9 (by simp)).elim, fun _ _ => C9, fun z8 => absurd (z8.resolve_right (by decide)) (hN.out.1 10 (by decide +kernel)), grown_trans qGW G, fun z9 => qF (fun z => z9 (.inl z)), fun z9 => own_grown (qO (fun z => z9 (.inl z))) G (fun k hk => by injection hk with hk; omega), fun h => c0 (h.resolve_right (by decide)), fun h => c1 (h.resolve_right (by decide)), fun h => c2 (h.resolve_right (by decide)), fun h => c3 (h.resolve_right (by decide)), fun h => c4 (h.resolve_right (by decide)), fun h => c5 (h.resolve_right (by decide)), fun h t0 => (t0 (by simp)).elim, fun _ => ⟨m, rfl⟩, fun h => c8 (h.resolve_right (by decide)), fun h t0 => (let ⟨gl, h1, h2, T⟩ := (c9 (h.resolve_right (by decide)) (fun z => t0 (.inl z))); ⟨gl, h1, h2, T.went G h2⟩), fun h => c10 (h.resolve_right (by decide)), fun h => c11 (h.resolve_right (by decide)), fun h t0 => absurd (h.resolve_right (by decide)) (hN.out.1 12 (by decide +kernel)), fun h => absurd (h.resolve_right (by decide)) (hN.out.1 13 (by decide +kernel)), fun h => absurd (h.resolve_right (by decide)) (hN.out.1 14 (by decide +kernel))⟩ _ (by simp only [e5, e6] <;> rfl)
            apply RelH.op2
            · intro L f u K hN hS hK
              simp only [puts, Act.put, List.setIfInBounds_toArray, List.set_cons_zero, List.set_cons_succ, upd, Nat.reduceEqDiff, ↓reduceIte, if_true, if_false] at hK ⊢
              have HS9 := Lib.hid hS
              obtain ⟨qN, qC, qC1, qC2, qGW, qF, qO, c0, c1, c2, c3, c4, c5, c6, c7, c8, c9, c10, c11, c12, c13, c14⟩ := hS
              clear qC qC1 qC2 qF qO c0 c1 c2 c3 c4 c5 c6 c7 c8 c9 c10 c11 c12 c13 c14
              go_simp
              obtain ⟨qN, qC, qC1, qC2, qGW, qF, qO, c0, c1, c2, c3, c4, c5, c6, c7, c8, c9, c10, c11, c12, c13, c14⟩ := HS9.out
              exact hK.out _ _ ⟨qN, fun z9 => qC (fun z => z9 (.inl z)), fun z8 z9 => qC1 (z8.resolve_right (by decide)) (fun z => z9 (.inl z)), fun z8 => qC2 (z8.resolve_right (by decide)), qGW, fun z9 => qF (fun z => z9 (.inl z)), fun z9 => qO (fun z => z9 (.inl z)), fun h => c0 (h.resolve_right (by decide)), fun h => c1 (h.resolve_right (by decide)), fun h => c2 (h.resolve_right (by decide)), fun h => c3 (h.resolve_right (by decide)), fun h => c4 (h.resolve_right (by decide)), fun h => c5 (h.resolve_right (by decide)), fun h t0 => c6 (h.resolve_right (by decide)) (fun z => t0 (.inl z)), fun h => c7 (h.resolve_right (by decide)), fun _ => rfl, fun h t0 => c9 (h.resolve_right (by decide)) (fun z => t0 (.inl z)), fun h => c10 (h.resolve_right (by decide)), fun h => c11 (h.resolve_right (by decide)), fun h t0 => c12 (h.resolve_right (by decide)) (fun z => t0 (.inl z)), fun h => c13 (h.resolve_right (by decide)), fun h => c14 (h.resolve_right (by decide))⟩ _ rfl
            apply RelH.op2
            · intro L f u K hN hS hK
              simp only [puts, Act.put, List.setIfInBounds_toArray, List.set_cons_zero, List.set_cons_succ, upd, Nat.reduceEqDiff, ↓reduceIte, if_true, if_false] at hK ⊢
              have HS9 := Lib.hid hS
              obtain ⟨qN, qC, qC1, qC2, qGW, qF, qO, c0, c1, c2, c3, c4, c5, c6, c7, c8, c9, c10, c11, c12, c13, c14⟩ := hS
              have hT := lst_at u [Value.int .i64 2, Value.int .i64 100, Value.int .i64 350, Value.int .i64 360, Value.int .i64 700, Value.int .i64 1000] 3 (g := u.heap.size) rfl
              have hpu : p < u.heap.size := by have := qN.there; omega
              clear qC qC1 qC2 qF qO c0 c1 c2 c3 c4 c5 c6 c7 c8 c9 c10 c11 c12 c13 c14
              go_simp
              obtain ⟨qN, qC, qC1, qC2, qGW, qF, qO, c0, c1, c2, c3, c4, c5, c6, c7, c8, c9, c10, c11, c12, c13, c14⟩ := HS9.out
              exact hK.out _ _ ⟨qN.alloc _, fun z9 => (qC (fun z => z9 (.inl z))).alloc _, fun z8 z9 => (qC1 (z8.resolve_right (by decide)) (fun z => z9 (.inl z))).alloc _, fun z8 => (qC2 (z8.resolve_right (by decide))).alloc _, grown_trans qGW (grown_alloc _ _ _), fun z9 => qF (fun z => z9 (.inl z)), fun z9 => own_keep (qO (fun z => z9 (.inl z))) (al (Below.refl _ _)), fun h => c0 (h.resolve_right (by decide)), fun h => c1 (h.resolve_right (by decide)), fun h => c2 (h.resolve_right (by decide)), fun h => c3 (h.resolve_right (by decide)), fun h => c4 (h.resolve_right (by decide)), fun h => c5 (h.resolve_right (by decide)), fun h t0 => (let ⟨gl, h1, h2, T⟩ := (c6 (h.resolve_right (by decide)) (fun z => t0 (.inl z))); ⟨gl, h1, h2, lst_more T (al (Below.refl _ _))⟩), fun h => c7 (h.resolve_right (by decide)), fun h => c8 (h.resolve_right (by decide)), fun _ _ => ⟨_, rfl, by omega, hT⟩, fun h => c10 (h.resolve_right (by decide)), fun h => c11 (h.resolve_right (by decide)), fun h t0 => absurd (h.resolve_right (by decide)) (hN.out.1 12 (by decide +kernel)), fun h => absurd (h.resolve_right (by decide)) (hN.out.1 13 (by decide +kernel)), fun h => absurd (h.resolve_right (by decide)) (hN.out.1 14 (by decide +kernel))⟩ _ rfl
            apply RelH.op2
            · intro L f u K hN hS hK
              simp only [puts, Act.put, List.setIfInBounds_toArray, List.set_cons_zero, List.set_cons_succ, upd, Nat.reduceEqDiff, ↓reduceIte, if_true, if_false] at hK ⊢
              have HS9 := Lib.hid hS
              obtain ⟨qN, qC, qC1, qC2, qGW, qF, qO, c0, c1, c2, c3, c4, c5, c6, c7, c8, c9, c10, c11, c12, c13, c14⟩ := hS
              have e8 := c8 (hN.out.2 8 (by decide +kernel))
              obtain ⟨gl, e9, h9, T⟩ := c9 (hN.out.2 9 (by decide +kernel)) (hN.out.1 10 (by decide +kernel))
              have HCON := Lib.hid (among_d B zs p (K1 + 2) u gl 6 [2, 100, 350, 360, 700, 1000] (qC1 (hN.out.2 7 (by decide +kernel)) (hN.out.1 10 (by decide +kernel))) (by omega) T h9 (by simp) (by simp))
              clear qC qC1 qC2 qF qO c0 c1 c2 c3 c4 c5 c6 c7 c8 c9 c10 c11 c12 c13 c14
              go_simp
              go_at_call 63
              refine HCON.out.mono ?_
              rintro e uw1 ⟨m, hm, rfl, C9, G⟩
              go_wp2_with fail
              obtain ⟨qN, qC, qC1, qC2, qGW, qF, qO, c0, c1, c2, c3, c4, c5, c6, c7, c8, c9, c10, c11, c12, c13, c14⟩ := HS9.out
              exact hK.out _ _ ⟨qN.went G (by omega), fun z9 => (z9 (.inl (hN.out.2 7 (by decide +kernel)))).elim, fun _ z9 => (z9 (by simp)).elim, fun _ => C9, grown_trans qGW G, fun z9 => qF (fun z => z9 (.inl z)), fun z9 => own_grown (qO (fun z => z9 (.inl z))) G (fun k hk => by injection hk with hk; omega), fun h => c0 (h.resolve_right (by decide)), fun h => c1 (h.resolve_right (by decide)), fun h => c2 (h.resolve_right (by decide)), fun h => c3 (h.resolve_right (by decide)), fun h => c4 (h.resolve_right (by decide)), fun h => c5 (h.resolve_right (by decide)), fun h t0 => (t0 (.inl (hN.out.2 7 (by decide +kernel)))).elim, fun h => c7 (h.resolve_right (by decide)), fun h => c8 (h.resolve_right (by decide)), fun h t0 => (t0 (by simp)).elim, fun _ => ⟨m, rfl⟩, fun h => c11 (h.resolve_right (by decide)), fun h t0 => absurd (h.resolve_right (by decide)) (hN.out.1 12 (by decide +kernel)), fun h => absurd (h.resolve_right (by decide)) (hN.out.1 13 (by decide +kernel)), fun h => absurd (h.resolve_right (by decide)) (hN.out.1 14 (by decide +kernel))⟩ _ (by simp only [e8, e9] <;> rfl)
            apply RelH.op2
            · intro L f u K hN hS hK
              simp only [puts, Act.put, List.setIfInBounds_toArray, List.set_cons_zero, List.set_cons_succ, upd, Nat.reduceEqDiff, ↓reduceIte, if_true, if_false] at hK ⊢
              have HS9 := Lib.hid hS
              obtain ⟨qN, qC, qC1, qC2, qGW, qF, qO, c0, c1, c2, c3, c4, c5, c6, c7, c8, c9, c10, c11, c12, c13, c14⟩ := hS
              have e4 := c4 (hN.out.2 4 (by decide +kernel))
              obtain ⟨a, e7⟩ := c7 (hN.out.2 7 (by decide +kernel))
              obtain ⟨b, e10⟩ := c10 (hN.out.2 10 (by decide +kernel))
              clear qC qC1 qC2 qF qO c0 c1 c2 c3 c4 c5 c6 c7 c8 c9 c10 c11 c12 c13 c14
              go_simp
              obtain ⟨qN, qC, qC1, qC2, qGW, qF, qO, c0, c1, c2, c3, c4, c5, c6, c7, c8, c9, c10, c11, c12, c13, c14⟩ := HS9.out
              exact hK.out _ _ ⟨qN, fun z9 => qC (fun z => z9 (.inl z)), fun z8 z9 => qC1 (z8.resolve_right (by decide)) (fun z => z9 (.inl z)), fun z8 => qC2 (z8.resolve_right (by decide)), qGW, fun z9 => qF (fun z => z9 (.inl z)), fun z9 => qO (fun z => z9 (.inl z)), fun h => c0 (h.resolve_right (by decide)), fun h => c1 (h.resolve_right (by decide)), fun h => c2 (h.resolve_right (by decide)), fun h => c3 (h.resolve_right (by decide)), fun h => c4 (h.resolve_right (by decide)), fun h => c5 (h.resolve_right (by decide)), fun h t0 => c6 (h.resolve_right (by decide)) (fun z => t0 (.inl z)), fun h => c7 (h.resolve_right (by decide)), fun h => c8 (h.resolve_right (by decide)), fun h t0 => c9 (h.resolve_right (by decide)) (fun z => t0 (.inl z)), fun h => c10 (h.resolve_right (by decide)), fun _ => ⟨a, b, rfl⟩, fun h t0 => c12 (h.resolve_right (by decide)) (fun z => t0 (.inl z)), fun h => c13 (h.resolve_right (by decide)), fun h => c14 (h.resolve_right (by decide))⟩ _ (by simp only [e4, e7, e10] <;> rfl)
            apply RelH.op2
            · intro L f u K hN hS hK
              simp only [puts, Act.put, List.setIfInBounds_toArray, List.set_cons_zero, List.set_cons_succ, upd, Nat.reduceEqDiff, ↓reduceIte, if_true, if_false] at hK ⊢
              have HS9 := Lib.hid hS
              obtain ⟨qN, qC, qC1, qC2, qGW, qF, qO, c0, c1, c2, c3, c4, c5, c6, c7, c8, c9, c10, c11, c12, c13, c14⟩ := hS
              obtain ⟨a, b, e11⟩ := c11 (hN.out.2 11 (by decide +kernel))
              have hX := Cb.new u [.string nm, .int .i64 a, .int .i64 b] 37 (g := u.heap.size) rfl
              clear qC qC1 qC2 qF qO c0 c1 c2 c3 c4 c5 c6 c7 c8 c9 c10 c11 c12 c13 c14
              go_simp
              obtain ⟨qN, qC, qC1, qC2, qGW, qF, qO, c0, c1, c2, c3, c4, c5, c6, c7, c8, c9, c10, c11, c12, c13, c14⟩ := HS9.out
              exact hK.out _ _ ⟨qN.alloc _, fun z9 => (qC (fun z => z9 (.inl z))).alloc _, fun z8 z9 => (qC1 (z8.resolve_right (by decide)) (fun z => z9 (.inl z))).alloc _, fun z8 => (qC2 (z8.resolve_right (by decide))).alloc _, grown_trans qGW (grown_alloc _ _ _), fun z9 => qF (fun z => z9 (.inl z)), fun z9 => own_keep (qO (fun z => z9 (.inl z))) (al (Below.refl _ _)), fun h => c0 (h.resolve_right (by decide)), fun h => c1 (h.resolve_right (by decide)), fun h => c2 (h.resolve_right (by decide)), fun h => c3 (h.resolve_right (by decide)), fun h => c4 (h.resolve_right (by decide)), fun h => c5 (h.resolve_right (by decide)), fun h t0 => (t0 (.inl (hN.out.2 7 (by decide +kernel)))).elim, fun h => c7 (h.resolve_right (by decide)), fun h => c8 (h.resolve_right (by decide)), fun h t0 => (t0 (.inl (hN.out.2 10 (by decide +kernel)))).elim, fun h => c10 (h.resolve_right (by decide)), fun h => c11 (h.resolve_right (by decide)), fun _ _ => ⟨_, a, b, rfl, hX⟩, fun h => absurd (h.resolve_right (by decide)) (hN.out.1 13 (by decide +kernel)), fun h => absurd (h.resolve_right (by decide)) (hN.out.1 14 (by decide +kernel))⟩ _ (by simp only [e11] <;> rfl)
            apply RelH.op2
            · intro L f u K hN hS hK
              simp only [puts, Act.put, List.setIfInBounds_toArray, List.set_cons_zero, List.set_cons_succ, upd, Nat.reduceEqDiff, ↓reduceIte, if_true, if_false] at hK ⊢
              have HS9 := Lib.hid hS
              obtain ⟨qN, qC, qC1, qC2, qGW, qF, qO, c0, c1, c2, c3, c4, c5, c6, c7, c8, c9, c10, c11, c12, c13, c14⟩ := hS
              have e0 := c0 (hN.out.2 0 (by decide +kernel))
              obtain ⟨h9, a, b, e12, X⟩ := c12 (hN.out.2 12 (by decide +kernel)) (hN.out.1 13 (by decide +kernel))
              have qO1 := qO (hN.out.1 13 (by decide +kernel))
              have hge : ∀ k, (Value.slice (some ⟨g, 0, none⟩) S9.length kA).ownBlock = some k → gN < k := fun k hk => by have := own_ge qO1 k hk; omega
              have hsz : gN < u.heap.size := qN.there
              refine step_own rfl (.tmp 20) (.tmp 32) 24 rfl (gN + 1) 37 i0 _ 3 32 Try.underlying24 hi0 hz0 HI1.out HI.out rfl (by decide) (.slice (some ⟨g, 0, none⟩) S9.length kA) S9.length (flat S9) e0 qO1 ⟨h9, 0, none⟩ 1 1 [.string nm, .int .i64 a, .int .i64 b] e12 rfl (cb_news3 X) (one3 nm a b) (by unfold maxLen; omega) (by omega) (by omega) ?_
              intro v2 uw1 O2 hg2 _
              obtain ⟨A2, kB, rfl⟩ := own_form O2
              exact hK.out (.slice A2 (S9.length + 1) kB) uw1 ⟨Cb.kept qN hg2 (fun k hk => hge k hk), fun z9 => (z9 (.inl (hN.out.2 7 (by decide +kernel)))).elim, fun _ z9 => (z9 (.inl (hN.out.2 10 (by decide +kernel)))).elim, fun z8 => (qC2 (z8.resolve_right (by decide))).grown hg2 (fun k hk => by have := hge k hk; omega), gw_grown qGW hg2 (fun k hk => by have := hge k hk; omega), fun z9 => qF (fun z => z9 (.inl z)), fun z9 => (z9 (by simp)).elim, fun h => c0 (h.resolve_right (by decide)), fun h => c1 (h.resolve_right (by decide)), fun h => c2 (h.resolve_right (by decide)), fun h => c3 (h.resolve_right (by decide)), fun h => c4 (h.resolve_right (by decide)), fun h => c5 (h.resolve_right (by decide)), fun h t0 => (t0 (.inl (hN.out.2 7 (by decide +kernel)))).elim, fun h => c7 (h.resolve_right (by decide)), fun h => c8 (h.resolve_right (by decide)), fun h t0 => (t0 (.inl (hN.out.2 10 (by decide +kernel)))).elim, fun h => c10 (h.resolve_right (by decide)), fun h => c11 (h.resolve_right (by decide)), fun h t0 => (t0 (by simp)).elim, fun _ => ⟨A2, kB, a, b, rfl, O2⟩, fun h => absurd (h.resolve_right (by decide)) (hN.out.1 14 (by decide +kernel))⟩ _ rfl
            apply RelH.op2
            · intro L f u K hN hS hK
              simp only [puts, Act.put, List.setIfInBounds_toArray, List.set_cons_zero, List.set_cons_succ, upd, Nat.reduceEqDiff, ↓reduceIte, if_true, if_false] at hK ⊢
              have HS9 := Lib.hid hS
              obtain ⟨qN, qC, qC1, qC2, qGW, qF, qO, c0, c1, c2, c3, c4, c5, c6, c7, c8, c9, c10, c11, c12, c13, c14⟩ := hS
              obtain ⟨A2, kB, a, b, e13, O2⟩ := c13 (hN.out.2 13 (by decide +kernel))
              clear qC qC1 qC2 qF qO c0 c1 c2 c3 c4 c5 c6 c7 c8 c9 c10 c11 c12 c13 c14
              go_simp
              obtain ⟨qN, qC, qC1, qC2, qGW, qF, qO, c0, c1, c2, c3, c4, c5, c6, c7, c8, c9, c10, c11, c12, c13, c14⟩ := HS9.out
              exact hK.out _ _ ⟨qN, fun z9 => qC (fun z => z9 (.inl z)), fun z8 z9 => qC1 (z8.resolve_right (by decide)) (fun z => z9 (.inl z)), fun z8 => qC2 (z8.resolve_right (by decide)), qGW, fun z9 => (z9 (by simp)).elim, fun z9 => qO (fun z => z9 (.inl z)), fun h => c0 (h.resolve_right (by decide)), fun h => c1 (h.resolve_right (by decide)), fun h => c2 (h.resolve_right (by decide)), fun h => c3 (h.resolve_right (by decide)), fun h => c4 (h.resolve_right (by decide)), fun h => c5 (h.resolve_right (by decide)), fun h t0 => c6 (h.resolve_right (by decide)) (fun z => t0 (.inl z)), fun h => c7 (h.resolve_right (by decide)), fun h => c8 (h.resolve_right (by decide)), fun h t0 => c9 (h.resolve_right (by decide)) (fun z => t0 (.inl z)), fun h => c10 (h.resolve_right (by decide)), fun h => c11 (h.resolve_right (by decide)), fun h t0 => c12 (h.resolve_right (by decide)) (fun z => t0 (.inl z)), fun h => c13 (h.resolve_right (by decide)), fun _ => ⟨A2, kB, a, b, rfl, O2⟩⟩ _ (by simp only [e13] <;> rfl)
            exact RelH.done
          intro L f V9 hL hS
          simp only [puts, Act.put, List.setIfInBounds_toArray, List.set_cons_zero, List.set_cons_succ]
          obtain ⟨qN, qC, qC1, qC2, qGW, qF, qO, c0, c1, c2, c3, c4, c5, c6, c7, c8, c9, c10, c11, c12, c13, c14⟩ := hS
          obtain ⟨A2, kB, a, b, e14, O9⟩ := c14 (hL 14 (by decide))
          have C9 := qC2 (hL 10 (by decide))
          simp only [e14]
          clear e14 c0 c1 c2 c3 c4 c5 c6 c7 c8 c9 c10 c11 c12 c13 c14 hL
          rw [show S9.length + 1 = (S9 ++ [(⟨nm, a, b⟩ : R)]).length by simp, show flat S9 ++ [.string nm, .int .i64 a, .int .i64 b] = flat (S9 ++ [(⟨nm, a, b⟩ : R)]) by simp [flat, R.cells]] at O9
          obtain ⟨L2, hL2⟩ : ∃ L2, S9 ++ [(⟨nm, a, b⟩ : R)] = L2 := ⟨_, rfl⟩
          have hl2 : L2.length = S9.length + 1 := by rw [← hL2]; simp
          have hn2 : ∀ x ∈ L2, x.f0.size ≤ 11 := by
            rw [← hL2]
            intro x hx
            rcases List.mem_append.1 hx with h1 | h1
            · exact hn11 x h1
            · simp at h1; subst h1; exact hns
          rw [hL2] at O9
          clear hL2
          obtain ⟨g2, c2, hA2⟩ : ∃ g2 c2, Value.slice A2 L2.length kB = .slice (some ⟨g2, 0, none⟩) L2.length c2 := by
            rw [hl2] at O9 ⊢
            exact own_some0 O9
          injection hA2 with hA2 _ hc2
          subst hA2; subst hc2
          have HN9 : Kd B zs p (K1 + 4) w gN g2 kB L2 V9 := ⟨C9, qGW, qN, O9, o0, o1, hn2⟩
          have HP2 := Lib.hid HN9
          have HLN := HLn.out
          clear qN qC qC1 qC2 qGW qO C9 O9 C GW N O HPP HP HN9 hn11
          have e5 : IntKind.i64.wrap ((2 : Int) + 1) = 2 + 1 := IntWalk.i64_in _ (by omega)
          have HLn2 := Lib.hid hl2
          clear hl2
          rw [show S9.length + 1 = L2.length from HLn2.out.symm]
          go_wp2
          go_roundw
          case rel => exact ⟨2 + 1, g2, kB, L2, by omega, rfl, rfl, Lib.hid (by rw [HLn2.out]; omega), Lib.hid (fun _ => by rw [HLn2.out]; omega), Lib.hid (HP2.out.le (by omega))⟩
          case measure => simp [intOf] <;> omega
        · have d2 : decide ((k9 : Int) = 2) = false := decide_eq_false (by omega)
          have e5 : IntKind.i64.wrap ((k9 : Int) + 1) = k9 + 1 := IntWalk.i64_in _ (by omega)
          have HLN := HLn.out
          go_wp2_with fail
          go_roundw
          case rel => exact ⟨k9 + 1, g, kA, S9, by omega, rfl, rfl, Lib.hid (by omega), Lib.hid (fun h => HL3.out (by omega)), Lib.hid (HP.out.le (by omega))⟩
          case measure => simp [intOf]; omega
      · go_upto_region 6 with fail
        have hS5 : S9.length ≤ 5 := by have := HLn.out; omega
        have HPP := HP
        obtain ⟨C, GW, N, O, o0, o1, hn11⟩ := HP.out
        obtain ⟨K1, hK1⟩ : ∃ k', K + 6 * k9 + 2 = k' := ⟨_, rfl⟩
        have hK1b : K1 ≤ 800000000 := by omega
        rw [hK1] at C
        have hB := C.base
        obtain ⟨nm, hnm, hns⟩ := name_at (k := k9) (by omega)
        have own0 := own_ge O g rfl
        refine wp_region_rel0 [20, 21, 22, 23, 24, 25, 26, 27, 28, 29, 30, 31, 32, 33, 4] (fun L f w' => (Cb gN names w') ∧ (¬ L 7 → Cu B zs p K1 w') ∧ (L 7 → ¬ L 10 → Cu B zs p (K1 + 2) w') ∧ (L 10 → Cu B zs p (K1 + 4) w') ∧ (w.grownBy w' (some p)) ∧ (¬ L 14 → f 4 = .slice (some ⟨g, 0, none⟩) S9.length kA) ∧ (¬ L 13 → w'.ownsRow (gN + 1) 37 3 (.slice (some ⟨g, 0, none⟩) S9.length kA) S9.length (flat S9)) ∧ (L 0 → f 20 = .slice (some ⟨g, 0, none⟩) S9.length kA) ∧ (L 1 → f 21 = .slice (some ⟨gN, 0, none⟩) 5 5) ∧ (L 2 → f 22 = .int .i64 k9) ∧ (L 3 → f 23 = .pointer (some ⟨gN, k9, none⟩)) ∧ (L 4 → f 24 = .string nm) ∧ (L 5 → f 25 = .pointer (some ⟨p, 0, none⟩)) ∧ (L 6 → ¬ L 7 → ∃ gl, f 26 = .slice (some ⟨gl, 0, none⟩) 5 5 ∧ gl ≠ p ∧ Lst w' gl (([0, 0, 2, 5, 9] : List Int).map (Value.int .i64))) ∧ (L 7 → ∃ m : Int, f 27 = .int .i64 m) ∧ (L 8 → f 28 = .pointer (some ⟨p, 0, none⟩)) ∧ (L 9 → ¬ L 10 → ∃ gl, f 29 = .slice (some ⟨gl, 0, none⟩) 6 6 ∧ gl ≠ p ∧ Lst w' gl (([2, 100, 350, 360, 700, 1000] : List Int).map (Value.int .i64))) ∧ (L 10 → ∃ m : Int, f 30 = .int .i64 m) ∧ (L 11 → ∃ a b : Int, f 31 = .agg #[.string nm, .int .i64 a, .int .i64 b]) ∧ (L 12 → ¬ L 13 → ∃ (h9 : Nat) (a b : Int), f 32 = .slice (some ⟨h9, 0, none⟩) 1 1 ∧ Cb h9 [.string nm, .int .i64 a, .int .i64 b] w') ∧ (L 13 → ∃ (A2 : Option Addr) (kB : Nat) (a b : Int), f 33 = .slice A2 (S9.length + 1) kB ∧ w'.ownsRow (gN + 1) 37 3 (.slice A2 (S9.length + 1) kB) (S9.length + 1) (flat S9 ++ [.string nm, .int .i64 a, .int .i64 b])) ∧ (L 14 → ∃ (A2 : Option Addr) (kB : Nat) (a b : Int), f 4 = .slice A2 (S9.length + 1) kB ∧ w'.ownsRow (gN + 1) 37 3 (.slice A2 (S9.length + 1) kB) (S9.length + 1) (flat S9 ++ [.string nm, .int .i64 a, .int .i64 b]))) (by kernel_rfl) (by kernel_rfl) (by kernel_rfl) ⟨N.more (Below.refl _ _).drew, fun _ => C.more (Below.refl _ _).drew, fun h => h.elim, fun h => h.elim, grown_more GW (Below.refl _ _).drew, fun _ => rfl, fun _ => own_keep O (Below.refl _ _).drew, fun h => h.elim, fun h => h.elim, fun h => h.elim, fun h => h.elim, fun h => h.elim, fun h => h.elim, fun h => h.elim, fun h => h.elim, fun h => h.elim, fun h => h.elim, fun h => h.elim, fun h => h.elim, fun h => h.elim, fun h => h.elim, fun h => h.elim⟩ ?_ ?_
        · apply RelH.op2
          · intro L f u K hN hS hK
            simp only [puts, Act.put, List.setIfInBounds_toArray, List.set_cons_zero, List.set_cons_succ, upd, Nat.reduceEqDiff, ↓reduceIte, if_true, if_false] at hK ⊢
            have HS9 := Lib.hid hS
            obtain ⟨qN, qC, qC1, qC2, qGW, qF, qO, c0, c1, c2, c3, c4, c5, c6, c7, c8, c9, c10, c11, c12, c13, c14⟩ := hS
            have e4s := qF (hN.out.1 14 (by decide +kernel))
            clear qC qC1 qC2 qF qO c0 c1 c2 c3 c4 c5 c6 c7 c8 c9 c10 c11 c12 c13 c14
            go_simp
            obtain ⟨qN, qC, qC1, qC2, qGW, qF, qO, c0, c1, c2, c3, c4, c5, c6, c7, c8, c9, c10, c11, c12, c13, c14⟩ := HS9.out
            exact hK.out _ _ ⟨qN, fun z9 => qC (fun z => z9 (.inl z)), fun z8 z9 => qC1 (z8.resolve_right (by decide)) (fun z => z9 (.inl z)), fun z8 => qC2 (z8.resolve_right (by decide)), qGW, fun z9 => qF (fun z => z9 (.inl z)), fun z9 => qO (fun z => z9 (.inl z)), fun _ => rfl, fun h => c1 (h.resolve_right (by decide)), fun h => c2 (h.resolve_right (by decide)), fun h => c3 (h.resolve_right (by decide)), fun h => c4 (h.resolve_right (by decide)), fun h => c5 (h.resolve_right (by decide)), fun h t0 => c6 (h.resolve_right (by decide)) (fun z => t0 (.inl z)), fun h => c7 (h.resolve_right (by decide)), fun h => c8 (h.resolve_right (by decide)), fun h t0 => c9 (h.resolve_right (by decide)) (fun z => t0 (.inl z)), fun h => c10 (h.resolve_right (by decide)), fun h => c11 (h.resolve_right (by decide)), fun h t0 => c12 (h.resolve_right (by decide)) (fun z => t0 (.inl z)), fun h => c13 (h.resolve_right (by decide)), fun h => c14 (h.resolve_right (by decide))⟩ _ (by simp only [e4s] <;> rfl)
          apply RelH.op2
          · intro L f u K hN hS hK
            simp only [puts, Act.put, List.setIfInBounds_toArray, List.set_cons_zero, List.set_cons_succ, upd, Nat.reduceEqDiff, ↓reduceIte, if_true, if_false] at hK ⊢
            have HS9 := Lib.hid hS
            obtain ⟨qN, qC, qC1, qC2, qGW, qF, qO, c0, c1, c2, c3, c4, c5, c6, c7, c8, c9, c10, c11, c12, c13, c14⟩ := hS
            clear qC qC1 qC2 qF qO c0 c1 c2 c3 c4 c5 c6 c7 c8 c9 c10 c11 c12 c13 c14
            go_simp
            obtain ⟨qN, qC, qC1, qC2, qGW, qF, qO, c0, c1, c2, c3, c4, c5, c6, c7, c8, c9, c10, c11, c12, c13, c14⟩ := HS9.out
            exact hK.out _ _ ⟨qN, fun z9 => qC (fun z => z9 (.inl z)), fun z8 z9 => qC1 (z8.resolve_right (by decide)) (fun z => z9 (.inl z)), fun z8 => qC2 (z8.resolve_right (by decide)), qGW, fun z9 => qF (fun z => z9 (.inl z)), fun z9 => qO (fun z => z9 (.inl z)), fun h => c0 (h.resolve_right (by decide)), fun _ => rfl, fun h => c2 (h.resolve_right (by decide)), fun h => c3 (h.resolve_right (by decide)), fun h => c4 (h.resolve_right (by decide)), fun h => c5 (h.resolve_right (by decide)), fun h t0 => c6 (h.resolve_right (by decide)) (fun z => t0 (.inl z)), fun h => c7 (h.resolve_right (by decide)), fun h => c8 (h.resolve_right (by decide)), fun h t0 => c9 (h.resolve_right (by decide)) (fun z => t0 (.inl z)), fun h => c10 (h.resolve_right (by decide)), fun h => c11 (h.resolve_right (by decide)), fun h t0 => c12 (h.resolve_right (by decide)) (fun z => t0 (.inl z)), fun h => c13 (h.resolve_right (by decide)), fun h => c14 (h.resolve_right (by decide))⟩ _ rfl
          apply RelH.op2
          · intro L f u K hN hS hK
            simp only [puts, Act.put, List.setIfInBounds_toArray, List.set_cons_zero, List.set_cons_succ, upd, Nat.reduceEqDiff, ↓reduceIte, if_true, if_false] at hK ⊢
            have HS9 := Lib.hid hS
            obtain ⟨qN, qC, qC1, qC2, qGW, qF, qO, c0, c1, c2, c3, c4, c5, c6, c7, c8, c9, c10, c11, c12, c13, c14⟩ := hS
            clear qC qC1 qC2 qF qO c0 c1 c2 c3 c4 c5 c6 c7 c8 c9 c10 c11 c12 c13 c14
            go_simp
            obtain ⟨qN, qC, qC1, qC2, qGW, qF, qO, c0, c1, c2, c3, c4, c5, c6, c7, c8, c9, c10, c11, c12, c13, c14⟩ := HS9.out
            exact hK.out _ _ ⟨qN, fun z9 => qC (fun z => z9 (.inl z)), fun z8 z9 => qC1 (z8.resolve_right (by decide)) (fun z => z9 (.inl z)), fun z8 => qC2 (z8.resolve_right (by decide)), qGW, fun z9 => qF (fun z => z9 (.inl z)), fun z9 => qO (fun z => z9 (.inl z)), fun h => c0 (h.resolve_right (by decide)), fun h => c1 (h.resolve_right (by decide)), fun _ => rfl, fun h => c3 (h.resolve_right (by decide)), fun h => c4 (h.resolve_right (by decide)), fun h => c5 (h.resolve_right (by decide)), fun h t0 => c6 (h.resolve_right (by decide)) (fun z => t0 (.inl z)), fun h => c7 (h.resolve_right (by decide)), fun h => c8 (h.resolve_right (by decide)), fun h t0 => c9 (h.resolve_right (by decide)) (fun z => t0 (.inl z)), fun h => c10 (h.resolve_right (by decide)), fun h => c11 (h.resolve_right (by decide)), fun h t0 => c12 (h.resolve_right (by decide)) (fun z => t0 (.inl z)), fun h => c13 (h.resolve_right (by decide)), fun h => c14 (h.resolve_right (by decide))⟩ _ rfl
          apply RelH.op2
          · intro L f u K hN hS hK
            simp only [puts, Act.put, List.setIfInBounds_toArray, List.set_cons_zero, List.set_cons_succ, upd, Nat.reduceEqDiff, ↓reduceIte, if_true, if_false] at hK ⊢
            have HS9 := Lib.hid hS
            obtain ⟨qN, qC, qC1, qC2, qGW, qF, qO, c0, c1, c2, c3, c4, c5, c6, c7, c8, c9, c10, c11, c12, c13, c14⟩ := hS
            have e1 := c1 (hN.out.2 1 (by decide +kernel))
            have e2 := c2 (hN.out.2 2 (by decide +kernel))
            have hk5i : (k9 : Int) < 5 := by omega
            clear qC qC1 qC2 qF qO c0 c1 c2 c3 c4 c5 c6 c7 c8 c9 c10 c11 c12 c13 c14
            go_simp
            obtain ⟨qN, qC, qC1, qC2, qGW, qF, qO, c0, c1, c2, c3, c4, c5, c6, c7, c8, c9, c10, c11, c12, c13, c14⟩ := HS9.out
            exact hK.out _ _ ⟨qN, fun z9 => qC (fun z => z9 (.inl z)), fun z8 z9 => qC1 (z8.resolve_right (by decide)) (fun z => z9 (.inl z)), fun z8 => qC2 (z8.resolve_right (by decide)), qGW, fun z9 => qF (fun z => z9 (.inl z)), fun z9 => qO (fun z => z9 (.inl z)), fun h => c0 (h.resolve_right (by decide)), fun h => c1 (h.resolve_right (by decide)), fun h => c2 (h.resolve_right (by decide)), fun _ => rfl, fun h => c4 (h.resolve_right (by decide)), fun h => c5 (h.resolve_right (by decide)), fun h t0 => c6 (h.resolve_right (by decide)) (fun z => t0 (.inl z)), fun h => c7 (h.resolve_right (by decide)), fun h => c8 (h.resolve_right (by decide)), fun h t0 => c9 (h.resolve_right (by decide)) (fun z => t0 (.inl z)), fun h => c10 (h.resolve_right (by decide)), fun h => c11 (h.resolve_right (by decide)), fun h t0 => c12 (h.resolve_right (by decide)) (fun z => t0 (.inl z)), fun h => c13 (h.resolve_right (by decide)), fun h => c14 (h.resolve_right (by decide))⟩ _ (by simp only [e1, e2] <;> rfl)
          apply RelH.op2
          · intro L f u K hN hS hK
            simp only [puts, Act.put, List.setIfInBounds_toArray, List.set_cons_zero, List.set_cons_succ, upd, Nat.reduceEqDiff, ↓reduceIte, if_true, if_false] at hK ⊢
            have HS9 := Lib.hid hS
            obtain ⟨qN, qC, qC1, qC2, qGW, qF, qO, c0, c1, c2, c3, c4, c5, c6, c7, c8, c9, c10, c11, c12, c13, c14⟩ := hS
            have e3 := c3 (hN.out.2 3 (by decide +kernel))
            have X_s := qN.cells k9 _ hnm
            clear qC qC1 qC2 qF qO c0 c1 c2 c3 c4 c5 c6 c7 c8 c9 c10 c11 c12 c13 c14
            go_simp
            obtain ⟨qN, qC, qC1, qC2, qGW, qF, qO, c0, c1, c2, c3, c4, c5, c6, c7, c8, c9, c10, c11, c12, c13, c14⟩ := HS9.out
            exact hK.out _ _ ⟨qN, fun z9 => qC (fun z => z9 (.inl z)), fun z8 z9 => qC1 (z8.resolve_right (by decide)) (fun z => z9 (.inl z)), fun z8 => qC2 (z8.resolve_right (by decide)), qGW, fun z9 => qF (fun z => z9 (.inl z)), fun z9 => qO (fun z => z9 (.inl z)), fun h => c0 (h.resolve_right (by decide)), fun h => c1 (h.resolve_right (by decide)), fun h => c2 (h.resolve_right (by decide)), fun h => c3 (h.resolve_right (by decide)), fun _ => rfl, fun h => c5 (h.resolve_right (by decide)), fun h t0 => c6 (h.resolve_right (by decide)) (fun z => t0 (.inl z)), fun h => c7 (h.resolve_right (by decide)), fun h => c8 (h.resolve_right (by decide)), fun h t0 => c9 (h.resolve_right (by decide)) (fun z => t0 (.inl z)), fun h => c10 (h.resolve_right (by decide)), fun h => c11 (h.resolve_right (by decide)), fun h t0 => c12 (h.resolve_right (by decide)) (fun z => t0 (.inl z)), fun h => c13 (h.resolve_right (by decide)), fun h => c14 (h.resolve_right (by decide))⟩ _ (by simp only [e3] <;> rfl)
          apply RelH.op2
          · intro L f u K hN hS hK
            simp only [puts, Act.put, List.setIfInBounds_toArray, List.set_cons_zero, List.set_cons_succ, upd, Nat.reduceEqDiff, ↓reduceIte, if_true, if_false] at hK ⊢
            have HS9 := Lib.hid hS
            obtain ⟨qN, qC, qC1, qC2, qGW, qF, qO, c0, c1, c2, c3, c4, c5, c6, c7, c8, c9, c10, c11, c12, c13, c14⟩ := hS
            clear qC qC1 qC2 qF qO c0 c1 c2 c3 c4 c5 c6 c7 c8 c9 c10 c11 c12 c13 c14
            go_simp
            obtain ⟨qN, qC, qC1, qC2, qGW, qF, qO, c0, c1, c2, c3, c4, c5, c6, c7, c8, c9, c10, c11, c12, c13, c14⟩ := HS9.out
            exact hK.out _ _ ⟨qN, fun z9 => qC (fun z => z9 (.inl z)), fun z8 z9 => qC1 (z8.resolve_right (by decide)) (fun z => z9 (.inl z)), fun z8 => qC2 (z8.resolve_right (by decide)), qGW, fun z9 => qF (fun z => z9 (.inl z)), fun z9 => qO (fun z => z9 (.inl z)), fun h => c0 (h.resolve_right (by decide)), fun h => c1 (h.resolve_right (by decide)), fun h => c2 (h.resolve_right (by decide)), fun h => c3 (h.resolve_right (by decide)), fun h => c4 (h.resolve_right (by decide)), fun _ => rfl, fun h t0 => c6 (h.resolve_right (by decide)) (fun z => t0 (.inl z)), fun h => c7 (h.resolve_right (by decide)), fun h => c8 (h.resolve_right (by decide)), fun h t0 => c9 (h.resolve_right (by decide)) (fun z => t0 (.inl z)), fun h => c10 (h.resolve_right (by decide)), fun h => c11 (h.resolve_right (by decide)), fun h t0 => c12 (h.resolve_right (by decide)) (fun z => t0 (.inl z)), fun h => c13 (h.resolve_right (by decide)), fun h => c14 (h.resolve_right (by decide))⟩ _ rfl
          apply RelH.op2
          · intro L f u K hN hS hK
            simp only [puts, Act.put, List.setIfInBounds_toArray, List.set_cons_zero, List.set_cons_succ, upd, Nat.reduceEqDiff, ↓reduceIte, if_true, if_false] at hK ⊢
            have HS9 := Lib.hid hS
            obtain ⟨qN, qC, qC1, qC2, qGW, qF, qO, c0, c1, c2, c3, c4, c5, c6, c7, c8, c9, c10, c11, c12, c13, c14⟩ := hS
            have hT := lst_at u [Value.int .i64 0, Value.int .i64 0, Value.int .i64 2, Value.int .i64 5, Value.int .i64 9] 3 (g := u.heap.size) rfl
            have hpu : p < u.heap.size := by have := qN.there; omega
            clear qC qC1 qC2 qF qO c0 c1 c2 c3 c4 c5 c6 c7 c8 c9 c10 c11 c12 c13 c14
            go_simp
            obtain ⟨qN, qC, qC1, qC2, qGW, qF, qO, c0, c1, c2, c3, c4, c5, c6, c7, c8, c9, c10, c11, c12, c13, c14⟩ := HS9.out
            exact hK.out _ _ ⟨qN.alloc _, fun z9 => (qC (fun z => z9 (.inl z))).alloc _, fun z8 z9 => (qC1 (z8.resolve_right (by decide)) (fun z => z9 (.inl z))).alloc _, fun z8 => (qC2 (z8.resolve_right (by decide))).alloc _, grown_trans qGW (grown_alloc _ _ _), fun z9 => qF (fun z => z9 (.inl z)), fun z9 => own_keep (qO (fun z => z9 (.inl z))) (al (Below.refl _ _)), fun h => c0 (h.resolve_right (by decide)), fun h => c1 (h.resolve_right (by decide)), fun h => c2 (h.resolve_right (by decide)), fun h => c3 (h.resolve_right (by decide)), fun h => c4 (h.resolve_right (by decide)), fun h => c5 (h.resolve_right (by decide)), fun _ _ => ⟨_, rfl, by omega, hT⟩, fun h => c7 (h.resolve_right (by decide)), fun h => c8 (h.resolve_right (by decide)), fun h t0 => (let ⟨gl, h1, h2, T⟩ := (c9 (h.resolve_right (by decide)) (fun z => t0 (.inl z))); ⟨gl, h1, h2, lst_more T (al (Below.refl _ _))⟩), fun h => c10 (h.resolve_right (by decide)), fun h => c11 (h.resolve_right (by decide)), fun h t0 => absurd (h.resolve_right (by decide)) (hN.out.1 12 (by decide +kernel)), fun h => absurd (h.resolve_right (by decide)) (hN.out.1 13 (by decide +kernel)), fun h => absurd (h.resolve_right (by decide)) (hN.out.1 14 (by decide +kernel))⟩ _ rfl
          apply RelH.op2
          · intro L f u K hN hS hK
            simp only [puts, Act.put, List.setIfInBounds_toArray, List.set_cons_zero, List.set_cons_succ, upd, Nat.reduceEqDiff, ↓reduceIte, if_true, if_false] at hK ⊢
            have HS9 := Lib.hid hS
            obtain ⟨qN, qC, qC1, qC2, qGW, qF, qO, c0, c1, c2, c3, c4, c5, c6, c7, c8, c9, c10, c11, c12, c13, c14⟩ := hS
            have e5 := c5 (hN.out.2 5 (by decide +kernel))
            obtain ⟨gl, e6, h6, T⟩ := c6 (hN.out.2 6 (by decide +kernel)) (hN.out.1 7 (by decide +kernel))
            have HCON := Lib.hid (among_d B zs p K1 u gl 5 [0, 0, 2, 5, 9] (qC (hN.out.1 7 (by decide +kernel))) (by omega) T h6 (by simp) (by simp))
            clear qC qC1 qC2 qF qO c0 c1 c2 c3 c4 c5 c6 c7 c8 c9 c10 c11 c12 c13 c14
            go_simp
            go_at_call 63
            refine HCON.out.mono ?_
            rintro e uw1 ⟨m, hm, rfl, C9, G⟩
            go_wp2_with fail
            obtain ⟨qN, qC, qC1, qC2, qGW, qF, qO, c0, c1, c2, c3, c4, c5, c6, c7, c8, c9, c10, c11, c12, c13, c14⟩ := HS9.out
            exact hK.out _ _ ⟨qN.went G (by omega), fun z9 => (z9 (by simp)).elim, fun _ _ => C9, fun z8 => absurd (z8.resolve_right (by decide)) (hN.out.1 10 (by decide +kernel)), grown_trans qGW G, fun z9 => qF (fun z => z9 (.inl z)), fun z9 => own_grown (qO (fun z => z9 (.inl z))) G (fun k hk => by injection hk with hk; omega), fun h => c0 (h.resolve_right (by decide)), fun h => c1 (h.resolve_right (by decide)), fun h => c2 (h.resolve_right (by decide)), fun h => c3 (h.resolve_right (by decide)), fun h => c4 (h.resolve_right (by decide)), fun h => c5 (h.resolve_right (by decide)), fun h t0 => (t0 (by simp)).elim, fun _ => ⟨m, rfl⟩, fun h => c8 (h.resolve_right (by decide)), fun h t0 => (let ⟨gl, h1, h2, T⟩ := (c9 (h.resolve_right (by decide)) (fun z => t0 (.inl z))); ⟨gl, h1, h2, T.went G h2⟩), fun h => c10 (h.resolve_right (by decide)), fun h => c11 (h.resolve_right (by decide)), fun h t0 => absurd (h.resolve_right (by decide)) (hN.out.1 12 (by decide +kernel)), fun h => absurd (h.resolve_right (by decide)) (hN.out.1 13 (by decide +kernel)), fun h => absurd (h.resolve_right (by decide)) (hN.out.1 14 (by decide +kernel))⟩ _ (by simp only [e5, e6] <;> rfl)
          apply RelH.op2
          · intro L f u K hN hS hK
            simp only [puts, Act.put, List.setIfInBounds_toArray, List.set_cons_zero, List.set_cons_succ, upd, Nat.reduceEqDiff, ↓reduceIte, if_true, if_false] at hK ⊢
            have HS9 := Lib.hid hS
            obtain ⟨qN, qC, qC1, qC2, qGW, qF, qO, c0, c1, c2, c3, c4, c5, c6, c7, c8, c9, c10, c11, c12, c13, c14⟩ := hS
            clear qC qC1 qC2 qF qO c0 c1 c2 c3 c4 c5 c6 c7 c8 c9 c10 c11 c12 c13 c14
            go_simp
            obtain ⟨qN, qC, qC1, qC2, qGW, qF, qO, c0, c1, c2, c3, c4, c5, c6, c7, c8, c9, c10, c11, c12, c13, c14⟩ := HS9.out
            exact hK.out _ _ ⟨qN, fun z9 => qC (fun z => z9 (.inl z)), fun z8 z9 => qC1 (z8.resolve_right (by decide)) (fun z => z9 (.inl z)), fun z8 => qC2 (z8.resolve_right (by decide)), qGW, fun z9 => qF (fun z => z9 (.inl z)), fun z9 => qO (fun z => z9 (.inl z)), fun h => c0 (h.resolve_right (by decide)), fun h => c1 (h.resolve_right (by decide)), fun h => c2 (h.resolve_right (by decide)), fun h => c3 (h.resolve_right (by decide)), fun h => c4 (h.resolve_right (by decide)), fun h => c5 (h.resolve_right (by decide)), fun h t0 => c6 (h.resolve_right (by decide)) (fun z => t0 (.inl z)), fun h => c7 (h.resolve_right (by decide)), fun _ => rfl, fun h t0 => c9 (h.resolve_right (by decide)) (fun z => t0 (.inl z)), fun h => c10 (h.resolve_right (by decide)), fun h => c11 (h.resolve_right (by decide)), fun h t0 => c12 (h.resolve_right (by decide)) (fun z => t0 (.inl z)), fun h => c13 (h.resolve_right (by decide)), fun h => c14 (h.resolve_right (by decide))⟩ _ rfl
          apply RelH.op2
          · intro L f u K hN hS hK
            simp only [puts, Act.put, List.setIfInBounds_toArray, List.set_cons_zero, List.set_cons_succ, upd, Nat.reduceEqDiff, ↓reduceIte, if_true, if_false] at hK ⊢
            have HS9 := Lib.hid hS
            obtain ⟨qN, qC, qC1, qC2, qGW, qF, qO, c0, c1, c2, c3, c4, c5, c6, c7, c8, c9, c10, c11, c12, c13, c14⟩ := hS
            have hT := lst_at u [Value.int .i64 2, Value.int .i64 100, Value.int .i64 350, Value.int .i64 360, Value.int .i64 700, Value.int .i64 1000] 3 (g := u.heap.size) rfl
            have hpu : p < u.heap.size := by have := qN.there; omega
            clear qC qC1 qC2 qF qO c0 c1 c2 c3 c4 c5 c6 c7 c8 c9 c10 c11 c12 c13 c14
            go_simp
            obtain ⟨qN, qC, qC1, qC2, qGW, qF, qO, c0, c1, c2, c3, c4, c5, c6, c7, c8, c9, c10, c11, c12, c13, c14⟩ := HS9.out
            exact hK.out _ _ ⟨qN.alloc _, fun z9 => (qC (fun z => z9 (.inl z))).alloc _, fun z8 z9 => (qC1 (z8.resolve_right (by decide)) (fun z => z9 (.inl z))).alloc _, fun z8 => (qC2 (z8.resolve_right (by decide))).alloc _, grown_trans qGW (grown_alloc _ _ _), fun z9 => qF (fun z => z9 (.inl z)), fun z9 => own_keep (qO (fun z => z9 (.inl z))) (al (Below.refl _ _)), fun h => c0 (h.resolve_right (by decide)), fun h => c1 (h.resolve_right (by decide)), fun h => c2 (h.resolve_right (by decide)), fun h => c3 (h.resolve_right (by decide)), fun h => c4 (h.resolve_right (by decide)), fun h => c5 (h.resolve_right (by decide)), fun h t0 => (let ⟨gl, h1, h2, T⟩ := (c6 (h.resolve_right (by decide)) (fun z => t0 (.inl z))); ⟨gl, h1, h2, lst_more T (al (Below.refl _ _))⟩), fun h => c7 (h.resolve_right (by decide)), fun h => c8 (h.resolve_right (by decide)), fun _ _ => ⟨_, rfl, by omega, hT⟩, fun h => c10 (h.resolve_right (by decide)), fun h => c11 (h.resolve_right (by decide)), fun h t0 => absurd (h.resolve_right (by decide)) (hN.out.1 12 (by decide +kernel)), fun h => absurd (h.resolve_right (by decide)) (hN.out.1 13 (by decide +kernel)), fun h => absurd (h.resolve_right (by decide)) (hN.out.1 14 (by decide +kernel))⟩ _ rfl
          apply RelH.op2
          · intro L f u K hN hS hK
            simp only [puts, Act.put, List.setIfInBounds_toArray, List.set_cons_zero, List.set_cons_succ, upd, Nat.reduceEqDiff, ↓reduceIte, if_true, if_false] at hK ⊢
            have HS9 := Lib.hid hS
            obtain ⟨qN, qC, qC1, qC2, qGW, qF, qO, c0, c1, c2, c3, c4, c5, c6, c7, c8, c9, c10, c11, c12, c13, c14⟩ := hS
            have e8 := c8 (hN.out.2 8 (by decide +kernel))
            obtain ⟨gl, e9, h9, T⟩ := c9 (hN.out.2 9 (by decide +kernel)) (hN.out.1 10 (by decide +kernel))
            have HCON := Lib.hid (among_d B zs p (K1 + 2) u gl 6 [2, 100, 350, 360, 700, 1000] (qC1 (hN.out.2 7 (by decide +kernel)) (hN.out.1 10 (by decide +kernel))) (by omega) T h9 (by simp) (by simp))
            clear qC qC1 qC2 qF qO c0 c1 c2 c3 c4 c5 c6 c7 c8 c9 c10 c11 c12 c13 c14
            go_simp
            go_at_call 63
            refine HCON.out.mono ?_
            rintro e uw1 ⟨m, hm, rfl, C9, G⟩
            go_wp2_with fail
            obtain ⟨qN, qC, qC1, qC2, qGW, qF, qO, c0, c1, c2, c3, c4, c5, c6, c7, c8, c9, c10, c11, c12, c13, c14⟩ := HS9.out
            exact hK.out _ _ ⟨qN.went G (by omega), fun z9 => (z9 (.inl (hN.out.2 7 (by decide +kernel)))).elim, fun _ z9 => (z9 (by simp)).elim, fun _ => C9, grown_trans qGW G, fun z9 => qF (fun z => z9 (.inl z)), fun z9 => own_grown (qO (fun z => z9 (.inl z))) G (fun k hk => by injection hk with hk; omega), fun h => c0 (h.resolve_right (by decide)), fun h => c1 (h.resolve_right (by decide)), fun h => c2 (h.resolve_right (by decide)), fun h => c3 (h.resolve_right (by decide)), fun h => c4 (h.resolve_right (by decide)), fun h => c5 (h.resolve_right (by decide)), fun h t0 => (t0 (.inl (hN.out.2 7 (by decide +kernel)))).elim, fun h => c7 (h.resolve_right (by decide)), fun h => c8 (h.resolve_right (by decide)), fun h t0 => (t0 (by simp)).elim, fun _ => ⟨m, rfl⟩, fun h => c11 (h.resolve_right (by decide)), fun h t0 => absurd (h.resolve_right (by decide)) (hN.out.1 12 (by decide +kernel)), fun h => absurd (h.resolve_right (by decide)) (hN.out.1 13 (by decide +kernel)), fun h => absurd (h.resolve_right (by decide)) (hN.out.1 14 (by decide +kernel))⟩ _ (by simp only [e8, e9] <;> rfl)
          apply RelH.op2
          · intro L f u K hN hS hK
            simp only [puts, Act.put, List.setIfInBounds_toArray, List.set_cons_zero, List.set_cons_succ, upd, Nat.reduceEqDiff, ↓reduceIte, if_true, if_false] at hK ⊢
            have HS9 := Lib.hid hS
            obtain ⟨qN, qC, qC1, qC2, qGW, qF, qO, c0, c1, c2, c3, c4, c5, c6, c7, c8, c9, c10, c11, c12, c13, c14⟩ := hS
            have e4 := c4 (hN.out.2 4 (by decide +kernel))
            obtain ⟨a, e7⟩ := c7 (hN.out.2 7 (by decide +kernel))
            obtain ⟨b, e10⟩ := c10 (hN.out.2 10 (by decide +kernel))
            clear qC qC1 qC2 qF qO c0 c1 c2 c3 c4 c5 c6 c7 c8 c9 c10 c11 c12 c13 c14
            go_simp
            obtain ⟨qN, qC, qC1, qC2, qGW, qF, qO, c0, c1, c2, c3, c4, c5, c6, c7, c8, c9, c10, c11, c12, c13, c14⟩ := HS9.out
            exact hK.out _ _ ⟨qN, fun z9 => qC (fun z => z9 (.inl z)), fun z8 z9 => qC1 (z8.resolve_right (by decide)) (fun z => z9 (.inl z)), fun z8 => qC2 (z8.resolve_right (by decide)), qGW, fun z9 => qF (fun z => z9 (.inl z)), fun z9 => qO (fun z => z9 (.inl z)), fun h => c0 (h.resolve_right (by decide)), fun h => c1 (h.resolve_right (by decide)), fun h => c2 (h.resolve_right (by decide)), fun h => c3 (h.resolve_right (by decide)), fun h => c4 (h.resolve_right (by decide)), fun h => c5 (h.resolve_right (by decide)), fun h t0 => c6 (h.resolve_right (by decide)) (fun z => t0 (.inl z)), fun h => c7 (h.resolve_right (by decide)), fun h => c8 (h.resolve_right (by decide)), fun h t0 => c9 (h.resolve_right (by decide)) (fun z => t0 (.inl z)), fun h => c10 (h.resolve_right (by decide)), fun _ => ⟨a, b, rfl⟩, fun h t0 => c12 (h.resolve_right (by decide)) (fun z => t0 (.inl z)), fun h => c13 (h.resolve_right (by decide)), fun h => c14 (h.resolve_right (by decide))⟩ _ (by simp only [e4, e7, e10] <;> rfl)
          apply RelH.op2
          · intro L f u K hN hS hK
            simp only [puts, Act.put, List.setIfInBounds_toArray, List.set_cons_zero, List.set_cons_succ, upd, Nat.reduceEqDiff, ↓reduceIte, if_true, if_false] at hK ⊢
            have HS9 := Lib.hid hS
            obtain ⟨qN, qC, qC1, qC2, qGW, qF, qO, c0, c1, c2, c3, c4, c5, c6, c7, c8, c9, c10, c11, c12, c13, c14⟩ := hS
            obtain ⟨a, b, e11⟩ := c11 (hN.out.2 11 (by decide +kernel))
            have hX := Cb.new u [.string nm, .int .i64 a, .int .i64 b] 37 (g := u.heap.size) rfl
            clear qC qC1 qC2 qF qO c0 c1 c2 c3 c4 c5 c6 c7 c8 c9 c10 c11 c12 c13 c14
            go_simp
            obtain ⟨qN, qC, qC1, qC2, qGW, qF, qO, c0, c1, c2, c3, c4, c5, c6, c7, c8, c9, c10, c11, c12, c13, c14⟩ := HS9.out
            exact hK.out _ _ ⟨qN.alloc _, fun z9 => (qC (fun z => z9 (.inl z))).alloc _, fun z8 z9 => (qC1 (z8.resolve_right (by decide)) (fun z => z9 (.inl z))).alloc _, fun z8 => (qC2 (z8.resolve_right (by decide))).alloc _, grown_trans qGW (grown_alloc _ _ _), fun z9 => qF (fun z => z9 (.inl z)), fun z9 => own_keep (qO (fun z => z9 (.inl z))) (al (Below.refl _ _)), fun h => c0 (h.resolve_right (by decide)), fun h => c1 (h.resolve_right (by decide)), fun h => c2 (h.resolve_right (by decide)), fun h => c3 (h.resolve_right (by decide)), fun h => c4 (h.resolve_right (by decide)), fun h => c5 (h.resolve_right (by decide)), fun h t0 => (t0 (.inl (hN.out.2 7 (by decide +kernel)))).elim, fun h => c7 (h.resolve_right (by decide)), fun h => c8 (h.resolve_right (by decide)), fun h t0 => (t0 (.inl (hN.out.2 10 (by decide +kernel)))).elim, fun h => c10 (h.resolve_right (by decide)), fun h => c11 (h.resolve_right (by decide)), fun _ _ => ⟨_, a, b, rfl, hX⟩, fun h => absurd (h.resolve_right (by decide)) (hN.out.1 13 (by decide +kernel)), fun h => absurd (h.resolve_right (by decide)) (hN.out.1 14 (by decide +kernel))⟩ _ (by simp only [e11] <;> rfl)
          apply RelH.op2
          · intro L f u K hN hS hK
            simp only [puts, Act.put, List.setIfInBounds_toArray, List.set_cons_zero, List.set_cons_succ, upd, Nat.reduceEqDiff, ↓reduceIte, if_true, if_false] at hK ⊢
            have HS9 := Lib.hid hS
            obtain ⟨qN, qC, qC1, qC2, qGW, qF, qO, c0, c1, c2, c3, c4, c5, c6, c7, c8, c9, c10, c11, c12, c13, c14⟩ := hS
            have e0 := c0 (hN.out.2 0 (by decide +kernel))
            obtain ⟨h9, a, b, e12, X⟩ := c12 (hN.out.2 12 (by decide +kernel)) (hN.out.1 13 (by decide +kernel))
            have qO1 := qO (hN.out.1 13 (by decide +kernel))
            have hge : ∀ k, (Value.slice (some ⟨g, 0, none⟩) S9.length kA).ownBlock = some k → gN < k := fun k hk => by have := own_ge qO1 k hk; omega
            have hsz : gN < u.heap.size := qN.there
            refine step_own rfl (.tmp 20) (.tmp 32) 24 rfl (gN + 1) 37 i0 _ 3 32 Try.underlying24 hi0 hz0 HI1.out HI.out rfl (by decide) (.slice (some ⟨g, 0, none⟩) S9.length kA) S9.length (flat S9) e0 qO1 ⟨h9, 0, none⟩ 1 1 [.string nm, .int .i64 a, .int .i64 b] e12 rfl (cb_news3 X) (one3 nm a b) (by unfold maxLen; omega) (by omega) (by omega) ?_
            intro v2 uw1 O2 hg2 _
            obtain ⟨A2, kB, rfl⟩ := own_form O2
            exact hK.out (.slice A2 (S9.length + 1) kB) uw1 ⟨Cb.kept qN hg2 (fun k hk => hge k hk), fun z9 => (z9 (.inl (hN.out.2 7 (by decide +kernel)))).elim, fun _ z9 => (z9 (.inl (hN.out.2 10 (by decide +kernel)))).elim, fun z8 => (qC2 (z8.resolve_right (by decide))).grown hg2 (fun k hk => by have := hge k hk; omega), gw_grown qGW hg2 (fun k hk => by have := hge k hk; omega), fun z9 => qF (fun z => z9 (.inl z)), fun z9 => (z9 (by simp)).elim, fun h => c0 (h.resolve_right (by decide)), fun h => c1 (h.resolve_right (by decide)), fun h => c2 (h.resolve_right (by decide)), fun h => c3 (h.resolve_right (by decide)), fun h => c4 (h.resolve_right (by decide)), fun h => c5 (h.resolve_right (by decide)), fun h t0 => (t0 (.inl (hN.out.2 7 (by decide +kernel)))).elim, fun h => c7 (h.resolve_right (by decide)), fun h => c8 (h.resolve_right (by decide)), fun h t0 => (t0 (.inl (hN.out.2 10 (by decide +kernel)))).elim, fun h => c10 (h.resolve_right (by decide)), fun h => c11 (h.resolve_right (by decide)), fun h t0 => (t0 (by simp)).elim, fun _ => ⟨A2, kB, a, b, rfl, O2⟩, fun h => absurd (h.resolve_right (by decide)) (hN.out.1 14 (by decide +kernel))⟩ _ rfl
          apply RelH.op2
          · intro L f u K hN hS hK
            simp only [puts, Act.put, List.setIfInBounds_toArray, List.set_cons_zero, List.set_cons_succ, upd, Nat.reduceEqDiff, ↓reduceIte, if_true, if_false] at hK ⊢
            have HS9 := Lib.hid hS
            obtain ⟨qN, qC, qC1, qC2, qGW, qF, qO, c0, c1, c2, c3, c4, c5, c6, c7, c8, c9, c10, c11, c12, c13, c14⟩ := hS
            obtain ⟨A2, kB, a, b, e13, O2⟩ := c13 (hN.out.2 13 (by decide +kernel))
            clear qC qC1 qC2 qF qO c0 c1 c2 c3 c4 c5 c6 c7 c8 c9 c10 c11 c12 c13 c14
            go_simp
            obtain ⟨qN, qC, qC1, qC2, qGW, qF, qO, c0, c1, c2, c3, c4, c5, c6, c7, c8, c9, c10, c11, c12, c13, c14⟩ := HS9.out
            exact hK.out _ _ ⟨qN, fun z9 => qC (fun z => z9 (.inl z)), fun z8 z9 => qC1 (z8.resolve_right (by decide)) (fun z => z9 (.inl z)), fun z8 => qC2 (z8.resolve_right (by decide)), qGW, fun z9 => (z9 (by simp)).elim, fun z9 => qO (fun z => z9 (.inl z)), fun h => c0 (h.resolve_right (by decide)), fun h => c1 (h.resolve_right (by decide)), fun h => c2 (h.resolve_right (by decide)), fun h => c3 (h.resolve_right (by decide)), fun h => c4 (h.resolve_right (by decide)), fun h => c5 (h.resolve_right (by decide)), fun h t0 => c6 (h.resolve_right (by decide)) (fun z => t0 (.inl z)), fun h => c7 (h.resolve_right (by decide)), fun h => c8 (h.resolve_right (by decide)), fun h t0 => c9 (h.resolve_right (by decide)) (fun z => t0 (.inl z)), fun h => c10 (h.resolve_right (by decide)), fun h => c11 (h.resolve_right (by decide)), fun h t0 => c12 (h.resolve_right (by decide)) (fun z => t0 (.inl z)), fun h => c13 (h.resolve_right (by decide)), fun _ => ⟨A2, kB, a, b, rfl, O2⟩⟩ _ (by simp only [e13] <;> rfl)
          exact RelH.done
        intro L f V9 hL hS
        simp only [puts, Act.put, List.setIfInBounds_toArray, List.set_cons_zero, List.set_cons_succ]
        obtain ⟨qN, qC, qC1, qC2, qGW, qF, qO, c0, c1, c2, c3, c4, c5, c6, c7, c8, c9, c10, c11, c12, c13, c14⟩ := hS
        obtain ⟨A2, kB, a, b, e14, O9⟩ := c14 (hL 14 (by decide))
        have C9 := qC2 (hL 10 (by decide))
        simp only [e14]
        clear e14 c0 c1 c2 c3 c4 c5 c6 c7 c8 c9 c10 c11 c12 c13 c14 hL
        rw [show S9.length + 1 = (S9 ++ [(⟨nm, a, b⟩ : R)]).length by simp, show flat S9 ++ [.string nm, .int .i64 a, .int .i64 b] = flat (S9 ++ [(⟨nm, a, b⟩ : R)]) by simp [flat, R.cells]] at O9
        obtain ⟨L2, hL2⟩ : ∃ L2, S9 ++ [(⟨nm, a, b⟩ : R)] = L2 := ⟨_, rfl⟩
        have hl2 : L2.length = S9.length + 1 := by rw [← hL2]; simp
        have hn2 : ∀ x ∈ L2, x.f0.size ≤ 11 := by
          rw [← hL2]
          intro x hx
          rcases List.mem_append.1 hx with h1 | h1
          · exact hn11 x h1
          · simp at h1; subst h1; exact hns
        rw [hL2] at O9
        clear hL2
        obtain ⟨g2, c2, hA2⟩ : ∃ g2 c2, Value.slice A2 L2.length kB = .slice (some ⟨g2, 0, none⟩) L2.length c2 := by
          rw [hl2] at O9 ⊢
          exact own_some0 O9
        injection hA2 with hA2 _ hc2
        subst hA2; subst hc2
        have HN9 : Kd B zs p (K1 + 4) w gN g2 kB L2 V9 := ⟨C9, qGW, qN, O9, o0, o1, hn2⟩
        have HP2 := Lib.hid HN9
        have HLN := HLn.out
        clear qN qC qC1 qC2 qGW qO C9 O9 C GW N O HPP HP HN9 hn11
        have e5 : IntKind.i64.wrap ((k9 : Int) + 1) = k9 + 1 := IntWalk.i64_in _ (by omega)
        have HLn2 := Lib.hid hl2
        clear hl2
        rw [show S9.length + 1 = L2.length from HLn2.out.symm]
        go_wp2
        go_roundw
        case rel => exact ⟨k9 + 1, g2, kB, L2, by omega, rfl, rfl, Lib.hid (by rw [HLn2.out]; omega), Lib.hid (fun _ => by rw [HLn2.out]; omega), Lib.hid (HP2.out.le (by omega))⟩
        case measure => simp [intOf] <;> omega
    · have d1 : decide ((k9 : Int) < 5) = false := decide_eq_false (by omega)
      obtain rfl : k9 = 5 := by omega
      have HLN := HLn.out
      have HL1 := HL3.out (by omega)
      clear HL3 HLn
      obtain ⟨x9, r9, rfl⟩ : ∃ x r, S9 = x :: r := by
        cases S9 with
        | nil => exact absurd HL1 (by decide)
        | cons a b => exact ⟨a, b, rfl⟩
      rw [List.length_cons] at HLN HL1 ⊢
      go_wp2_with fail
      refine (HP.out.pick (by omega) 32 (by omega) (by omega)).mono ?_
      rintro e V1 ⟨x, hx, rfl, hp1⟩
      replace HP := Lib.hid hp1; clear hp1
      by_cases h0 : x = 0
      · subst h0
        go_wp2_with fail
        refine (HP.out.among (by omega) [0, 1, 1001] 3 (by simp) (by simp) rfl).mono ?_
        rintro e V2 ⟨y, hy, rfl, hp1⟩
        replace HP := Lib.hid hp1; clear hp1
        have hfz := HP.out.O.frozenAt 2
        have hcz := HP.out.cell0.2.2
        go_wp2_with fail
        go_ret
        have HQ := HP.out.put 2 (.int .i64 y) ⟨x9.f0, x9.f1, y⟩ (by simp [flat, R.cells]) (HP.out.nm x9 (by simp))
        exact HQ.post (by simp; omega) (by omega)
      have d60 : decide (x = 0) = false := decide_eq_false h0
      by_cases h1 : x = 1
      · subst h1
        go_wp2_with fail
        refine (HP.out.among (by omega) [-1, 10] 2 (by simp) (by simp) rfl).mono ?_
        rintro e V2 ⟨y, hy, rfl, hp1⟩
        replace HP := Lib.hid hp1; clear hp1
        have hfz := HP.out.O.frozenAt 1
        have hcz := HP.out.cell0.2.1
        go_wp2_with fail
        go_ret
        have HQ := HP.out.put 1 (.int .i64 y) ⟨x9.f0, y, x9.f2⟩ (by simp [flat, R.cells]) (HP.out.nm x9 (by simp))
        exact HQ.post (by simp; omega) (by omega)
      have d61 : decide (x = 1) = false := decide_eq_false h1
      by_cases h2 : x = 2
      · subst h2
        go_wp2_with fail
        refine (HP.out.of (by omega) 4 rfl).mono ?_
        rintro e V2 ⟨y, hy, rfl, hp1⟩
        replace HP := Lib.hid hp1; clear hp1
        have hfz := HP.out.O.frozenAt 0
        have hcz := HP.out.cell0.1
        go_wp2_with fail
        go_ret
        have HQ := HP.out.put 0 (.string y) ⟨y, x9.f1, x9.f2⟩ (by simp [flat, R.cells]) (hy)
        exact HQ.post (by simp; omega) (by omega)
      have d62 : decide (x = 2) = false := decide_eq_false h2
      by_cases h3 : x = 3
      · subst h3
        go_wp2_with fail
        go_ret
        exact HP.out.fresh.post (by simp) (by omega)
      have d63 : decide (x = 3) = false := decide_eq_false h3
      go_wp2_with fail
      go_ret
      exact HP.out.post (by simp; omega) (by omega)
end Go.Proofs.Ythilbpklmjpmcaa.DKind
