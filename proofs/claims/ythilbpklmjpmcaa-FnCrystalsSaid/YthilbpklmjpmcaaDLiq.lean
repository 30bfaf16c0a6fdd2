/- The draws of chapter 10: a liquor, an index. Made by tools/mk_dliq.py. -/
import Derived.Test.YthilbpklmjpmcaaDKind
import Derived.Test.YthilbpklmjpmcaaNest
import Derived.Deep.AppendLies
import Derived.Maps.AppendAt
namespace Go.Proofs.Ythilbpklmjpmcaa.DLiq
open Go.RowKit Go.Proofs.Ythilbpklmjpmcaa.Mem Go.Proofs.Ythilbpklmjpmcaa.Base Go.Proofs.Ythilbpklmjpmcaa.Draw Go.Proofs.Ythilbpklmjpmcaa.Boxes Go.Proofs.Ythilbpklmjpmcaa.Keep Go.Proofs.Ythilbpklmjpmcaa.Dr Go.Proofs.Ythilbpklmjpmcaa.Regn Go.Proofs.Ythilbpklmjpmcaa.SInt Go.Proofs.Ythilbpklmjpmcaa.Nest
open Go.Proofs.Ythilbpklmjpmcaa.DKind (cell_add1)
set_option linter.unusedVariables false
set_option linter.unusedSimpArgs false
set_option maxRecDepth 100000
theorem step_lies {P : Program} {w : World} {yf : Nat → Option Bool} {o : Oper} {a : Act} {K : Act → World → Prop} {Q : Exit → Act → World → Prop} {E : Prop} (hgd : o.guard = none) (s x : Operand) (t : TypeId)
    (ho : o.op = .call { callee := .builtin .append, args := #[s, x], argTypes := #[t, t] })
    (base : Nat) (e : TypeId) (i : TypeInfo) (z : Value) (size bytes : Nat) (ht : P.underlying t = some (.slice e)) (hi : P.info? e = some i) (hz : i.zero = some z)
    (hsize : i.size = size) (hby : i.bytes = bytes) (hzs : z.cells.size = size) (hsz : 0 < size)
    (v : Value) (n : Nat) (xs : List Value) (hs : a.eval s = v) (hown : w.ownsRow base e size v n xs)
    (ad : Addr) (m c : Nat) (news : List Value) (hx : a.eval x = .slice (some ad) m c) (hl : news.length = m * size) (hnews : ∀ j u, news[j]? = some u → w.cell? (ad.add j) = some u) (h1 : ∀ u ∈ news, u.oneCell' = true)
    (hm : 0 < m) (h63 : n + m ≤ maxLen) (hbytes : (n + m) * bytes ≤ 140737488355328) (hbase : base ≤ w.heap.size) (H : Nat) (hH : w.heap.size = H)
    (h : ∀ g cap w', w'.ownsRow base e size (.slice (some ⟨g, 0, none⟩) (n + m) cap) (n + m) (xs ++ news) → w.grownBy w' v.ownBlock → (v.ownBlock = some g ∨ g = H) → g < w'.heap.size → K (a.put o.dst (.slice (some ⟨g, 0, none⟩) (n + m) cap)) w') :
    if Region.wanted o yf = true then Oper.wp P o a w K Q else E := by
  rw [if_pos (by simp [Region.wanted, hgd])]
  exact wp_append_lies w s x t ho base e i z size bytes ht hi hz hsize hby hzs hsz v n xs hs hown ad m c news hx hl hnews h1 hm h63 hbytes hbase H hH h
theorem info_int : (Try.prog.info? 3).map (fun i => (i.zero, i.size, i.bytes)) = some (some (.int .i64 0), 1, 8) := by kernel_rfl
theorem Cb.off {g : Nat} {cs : List Value} {W V : World} {row : Option Nat} (h : Cb g cs W) (hg : W.grownBy V row) (hr : ∀ k, row = some k → k ≠ g) : Cb g cs V := by
  have hb : V.heap[g]? = W.heap[g]? := hg.block g h.there (fun e => hr g e.symm rfl)
  exact ⟨fun i v hv => (World.cell?_of_block (w := W) hb).trans (h.cells i v hv), fun i hi => (World.frozen?_of_block (w := W) hb).trans (h.free i hi), Nat.lt_of_lt_of_le h.there hg.size⟩
theorem cb_news {W : World} {h : Nat} {x : Value} (X : Cb h [x] W) : ∀ j u, [x][j]? = some u → W.cell? ((⟨h, 0, none⟩ : Addr).add j) = some u := by
  intro j u hu
  rw [cell_add1]
  exact X.cells j u hu
/-- the result's box, the liquor's box, its salts. -/
structure Lq (B : Nat) (zs : List Int) (p K : Nat) (w : World) (gR gH : Nat) (wt : Int) (A : Option Addr) (c : Nat) (L : List Int) (W : World) : Prop where
  C : Cu B zs p K W
  GW : w.grownBy W (some p)
  R : Cb gR [.int .i64 0, .slice none 0 0] W
  H : Cb gH [.int .i64 wt, .slice A L.length c] W
  O : W.ownsRow (gR + 1) 3 1 (.slice A L.length c) L.length (iv L)
  ne : ∀ k, (Value.slice A L.length c).ownBlock = some k → k ≠ gH
  o0 : p < w.heap.size
  o1 : w.heap.size ≤ gR
  o2 : gR < gH
variable {B : Nat} {zs : List Int} {p K : Nat} {w : World} {gR gH : Nat} {wt : Int} {A : Option Addr} {c : Nat} {L : List Int} {W : World}
theorem Lq.alloc (h : Lq B zs p K w gR gH wt A c L W) (o : Obj) : Lq B zs p K w gR gH wt A c L (W.alloc o) :=
  ⟨h.C.alloc o, grown_trans h.GW (grown_alloc _ _ _), h.R.alloc o, h.H.alloc o, own_keep h.O (al (Below.refl _ _)), h.ne, h.o0, h.o1, h.o2⟩
theorem Lq.went {K' : Nat} {V : World} (h : Lq B zs p K w gR gH wt A c L W) (C : Cu B zs p K' V) (G : W.grownBy V (some p)) : Lq B zs p K' w gR gH wt A c L V := by
  have h0 := h.o0; have h1 := h.o1; have h2 := h.o2
  exact ⟨C, grown_trans h.GW G, h.R.went G (by omega), h.H.went G (by omega), own_grown h.O G (fun k hk => by injection hk with hk; omega), h.ne, h0, h1, h2⟩
theorem Lq.le {K' : Nat} (h : Lq B zs p K w gR gH wt A c L W) (hk : K ≤ K') : Lq B zs p K' w gR gH wt A c L W := ⟨h.C.le hk, h.GW, h.R, h.H, h.O, h.ne, h.o0, h.o1, h.o2⟩
theorem Lq.among (h : Lq B zs p K w gR gH wt A c L W) (hK : K ≤ 900000000) (xs : List Int) (c' : Nat) (hx0 : 1 ≤ xs.length) (hx1 : xs.length ≤ 65536) {k : Nat} (hk : k = W.heap.size) :
    Calls Try.prog 63 #[.pointer (some ⟨p, 0, none⟩), .slice (some ⟨k, 0, none⟩) xs.length c'] (W.alloc (.cells (xs.map (Value.int .i64)).toArray 3)) fun e V => ∃ x, x ∈ xs ∧ e = .returned (.int .i64 x) ∧ Lq B zs p (K + 2) w gR gH wt A c L V := by
  have h0 := h.o0; have h1 := h.o1; have h2 := h.o2; have h3 := h.H.there
  have ha := h.alloc (.cells (xs.map (Value.int .i64)).toArray 3)
  refine (among_d B zs p K _ k c' xs ha.C hK (lst_at W _ _ hk) (by omega) hx0 hx1).mono ?_
  rintro e V ⟨x, hx, rfl, C, G⟩
  exact ⟨x, hx, rfl, ha.went C G⟩
theorem Lq.pick (h : Lq B zs p K w gR gH wt A c L W) (hK : K ≤ 900000000) (n : Int) (hn : 1 ≤ n) (hn1 : n ≤ 65536) :
    Calls Try.prog 86 #[.pointer (some ⟨p, 0, none⟩), .int .i64 n] W fun e V => ∃ x : Int, (0 ≤ x ∧ x < n) ∧ e = .returned (.int .i64 x) ∧ Lq B zs p (K + 2) w gR gH wt A c L V := by
  refine (pick_d B zs p K W n h.C hK hn hn1).mono ?_
  rintro e V ⟨x, hx, rfl, C, G⟩
  exact ⟨x, hx, rfl, h.went C G⟩
/-- ahead of the liquor's box: the result's box alone. -/
structure L0 (B : Nat) (zs : List Int) (p K : Nat) (w : World) (gR : Nat) (W : World) : Prop where
  C : Cu B zs p K W
  GW : w.grownBy W (some p)
  R : Cb gR [.int .i64 0, .slice none 0 0] W
  o0 : p < w.heap.size
  o1 : w.heap.size ≤ gR
theorem L0.among (h : L0 B zs p K w gR W) (hK : K ≤ 900000000) (xs : List Int) (c' : Nat) (hx0 : 1 ≤ xs.length) (hx1 : xs.length ≤ 65536) {k : Nat} (hk : k = W.heap.size) :
    Calls Try.prog 63 #[.pointer (some ⟨p, 0, none⟩), .slice (some ⟨k, 0, none⟩) xs.length c'] (W.alloc (.cells (xs.map (Value.int .i64)).toArray 3)) fun e V => ∃ x, x ∈ xs ∧ e = .returned (.int .i64 x) ∧ L0 B zs p (K + 2) w gR V := by
  have h0 := h.o0; have h1 := h.o1; have h3 := h.R.there
  refine (among_d B zs p K _ k c' xs (h.C.alloc _) hK (lst_at W _ _ hk) (by omega) hx0 hx1).mono ?_
  rintro e V ⟨x, hx, rfl, C, G⟩
  exact ⟨x, hx, rfl, C, grown_trans (grown_trans h.GW (grown_alloc _ _ _)) G, (h.R.alloc _).went G (by omega), h0, h1⟩
theorem L0.made (h : L0 B zs p K w gR W) (x : Int) : Lq B zs p K w gR (W.heap.size + 1) x (some ⟨W.heap.size, 0, none⟩) 0 [] ((W.alloc (.cells #[] 3)).alloc (.cells #[.int .i64 x, .slice (some ⟨W.heap.size, 0, none⟩) 0 0] 27)) := by
  have h0 := h.o0; have h1 := h.o1; have h3 := h.R.there
  refine ⟨(h.C.alloc _).alloc _, grown_trans (grown_trans h.GW (grown_alloc _ _ _)) (grown_alloc _ _ _), (h.R.alloc _).alloc _, ?_, ?_, ?_, h0, h1, by omega⟩
  · have := Cb.new (W.alloc (.cells #[] 3)) [.int .i64 x, .slice (some ⟨W.heap.size, 0, none⟩) 0 0] 27 (g := W.heap.size + 1) (size_alloc' _ _).symm
    exact this
  · exact own_keep (World.ownsRow_made (e := 3) (size := 1) (base := gR + 1) W #[] 0 (by omega) (by unfold maxLen; omega) rfl) (al (Below.refl _ _))
  · intro k hk; have e : W.heap.size = k := by simpa [Value.ownBlock] using hk
    omega
theorem Lq.setW (h : Lq B zs p K w gR gH wt A c L W) (x : Int) : Lq B zs p K w gR gH x A c L (W.setCell ⟨gH, 0, none⟩ (.int .i64 x)) := by
  have h0 := h.o0; have h1 := h.o1; have h2 := h.o2
  have hB := h.C.base
  exact ⟨h.C.set (g := gH) (by omega) (by omega) 0 _, grown_set h.GW (g := gH) (by omega) 0 _, h.R.far (k := gH) (by omega) 0 _, by simpa using h.H.set 0 (.int .i64 x), own_congr h.O (fun k hk => Below.heap_setCell W ⟨gH, 0, none⟩ _ k (fun e => h.ne k hk e)), h.ne, h0, h1, h2⟩
/-- behind the result's stores. -/
theorem Lq.fin (h : Lq B zs p K w gR gH wt A c L W) :
    ((W.setCell ⟨gR, 0, none⟩ (.int .i64 wt)).setCell ⟨gR, 1, none⟩ (.slice A L.length c)).cell? ⟨gR, 0, none⟩ = some (.int .i64 wt) ∧
    ((W.setCell ⟨gR, 0, none⟩ (.int .i64 wt)).setCell ⟨gR, 1, none⟩ (.slice A L.length c)).cell? ⟨gR, 1, none⟩ = some (.slice A L.length c) ∧
    RowOwn ((W.setCell ⟨gR, 0, none⟩ (.int .i64 wt)).setCell ⟨gR, 1, none⟩ (.slice A L.length c)) (p + 1) ⟨A, c, L⟩ ∧
    Cu B zs p K ((W.setCell ⟨gR, 0, none⟩ (.int .i64 wt)).setCell ⟨gR, 1, none⟩ (.slice A L.length c)) ∧
    w.grownBy ((W.setCell ⟨gR, 0, none⟩ (.int .i64 wt)).setCell ⟨gR, 1, none⟩ (.slice A L.length c)) (some p) := by
  have h0 := h.o0; have h1 := h.o1; have h2 := h.o2
  have hB := h.C.base
  have R := (h.R.set 0 (.int .i64 wt)).set 1 (.slice A L.length c)
  refine ⟨R.cells 0 _ rfl, R.cells 1 _ rfl, ?_, ?_, ?_⟩
  · have h3 := own_base h.O (base' := p + 1) (by omega)
    exact own_congr h3 (fun k hk => by
      have hk2 := own_ge h.O k hk
      rw [Below.heap_setCell _ ⟨gR, 1, none⟩ _ k (by show k ≠ gR; omega), Below.heap_setCell W ⟨gR, 0, none⟩ _ k (by show k ≠ gR; omega)])
  · exact (h.C.set (g := gR) (by omega) (by omega) 0 _).set (g := gR) (by omega) (by omega) 1 _
  · exact grown_set (grown_set h.GW (g := gR) (by omega) 0 _) (g := gR) (by omega) 1 _
/-- a liquor, its salts in new memory. -/
def LPost (B : Nat) (zs : List Int) (p K : Nat) (w : World) (e : Ending) (w' : World) : Prop :=
  ∃ (wt : Int) (A : Option Addr) (c : Nat) (L : List Int), L.length ≤ 7 ∧ e = .returned (.agg #[.int .i64 wt, .slice A L.length c]) ∧ RowOwn w' (p + 1) ⟨A, c, L⟩ ∧ Cu B zs p K w' ∧ w.grownBy w' (some p)
theorem index_d (B : Nat) (zs : List Int) (p K : Nat) (w : World) (C : Cu B zs p K w) (hK : K ≤ 700000000) (n : Nat) (hn : n ≤ 6) :
    Calls Try.prog 67 #[.pointer (some ⟨p, 0, none⟩), .int .i64 n] w fun e w' => ∃ x : Int, (-1 ≤ x ∧ x ≤ n) ∧ e = .returned (.int .i64 x) ∧ Cu B zs p (K + 4) w' ∧ w.grownBy w' (some p) := by
  go_enter Try.func67, Try.ntmps67
  have hp := C.lt
  have hB := C.base
  have GW : w.grownBy w (some p) := grown_refl w _
  have e1 : IntKind.i64.wrap ((n : Int) + 1) = (n : Int) + 1 := IntWalk.i64_in _ (by omega)
  try go_wp2_with fail
  refine (pick_d B zs p (K) _ ((n : Int) + 1) C (by omega) (by omega) (by omega)).mono ?_
  rintro e u1 ⟨x, x_r, rfl, C1, G⟩
  have yu1 : w.heap.size ≤ u1.heap.size := G.size
  replace GW := grown_trans GW G
  replace C := C1
  clear C1 G
  have zu1 := GW.size
  try go_wp2_with fail
  refine (pick_d B zs p (K + 2) _ 17 C (by omega) (by omega) (by omega)).mono ?_
  rintro e u2 ⟨y, y_r, rfl, C1, G⟩
  have yu2 : u1.heap.size ≤ u2.heap.size := G.size
  replace GW := grown_trans GW G
  replace C := C1
  clear C1 G
  have zu2 := GW.size
  have e2 : y.tdiv 16 = y / 16 := Int.tdiv_eq_ediv_of_nonneg (by omega)
  have e3 : IntKind.i64.wrap (y / 16) = y / 16 := IntWalk.i64_in _ (by omega)
  have e4 : IntKind.i64.wrap (x - y / 16) = x - y / 16 := IntWalk.i64_in _ (by omega)
  go_wp2
  go_ret
  exact ⟨x - y / 16, by omega, rfl, C.le (by omega), GW⟩
set_option maxHeartbeats 6400000 in
theorem liquor_d (B : Nat) (zs : List Int) (p K : Nat) (w : World) (C : Cu B zs p K w) (hK : K ≤ 700000000) (P : Option Addr) (n cap : Nat) (hn : n ≤ 6) :
    Calls Try.prog 62 #[.pointer (some ⟨p, 0, none⟩), .slice P n cap] w (LPost B zs p (K + 100) w) := by
  obtain ⟨i0, hi0, hz0, hz1, hz2⟩ := info_parts info_int
  have HI := Lib.hid hz2; clear hz2
  have HI1 := Lib.hid hz1; clear hz1
  have hp0 := C.lt
  have hB0 := C.base
  go_enter Try.func62, Try.ntmps62
  have H0 : L0 B zs p K w w.heap.size (w.alloc (.cells #[.int .i64 0, .slice none 0 0] 27)) := ⟨C.alloc _, grown_alloc _ _ _, Cb.new w _ _ rfl, hp0, Nat.le_refl _⟩
  have HP := Lib.hid H0
  clear H0 C
  go_wp2_with fail
  refine (HP.out.among (by omega) [0, 1, 10, 100, 1000, 5000, 1000000] 7 (by simp) (by simp) (by rw [size_alloc'])).mono ?_
  rintro e V1 ⟨wt, hwt, rfl, hp1⟩
  replace HP := Lib.hid hp1; clear hp1
  clear hwt
  go_upto_region 3 with fail
  obtain ⟨gR, hgR⟩ : ∃ g, w.heap.size = g := ⟨_, rfl⟩
  have HQ := Lib.hid (HP.out.made wt)
  replace HP := HQ; clear HQ
  simp only [hgR] at HP ⊢
  obtain ⟨X, hX⟩ : ∃ X, (V1.alloc (.cells #[] 3)).alloc (.cells #[.int .i64 wt, .slice (some ⟨V1.heap.size, 0, none⟩) 0 0] 27) = X := ⟨_, rfl⟩
  rw [hX] at HP ⊢
  clear hX
  obtain ⟨gH, hgH⟩ : ∃ g, V1.heap.size + 1 = g := ⟨_, rfl⟩
  rw [hgH] at HP ⊢
  clear hgH
  go_loopw [6] (fun iv wr => ∃ (k : Nat) (A1 : Option Addr) (c1 : Nat) (L : List Int), k ≤ n ∧ iv = .int .i64 k ∧ Hid (L.length = k) ∧ Hid (Lq B zs p (K + 2 + 6 * k) w gR gH wt A1 c1 L wr)) (fun iv _ => 13 - (intOf iv).toNat)
  case atStart => exact ⟨0, _, _, [], by omega, rfl, Lib.hid rfl, HP⟩
  case round =>
    clear HP
    obtain ⟨k9, A1, kA, S9, hk, rfl, hlen, HP⟩ := hrel
    by_cases hgo : k9 < n
    · have d1 : decide ((k9 : Int) < n) = true := decide_eq_true (by omega)
      have d2 : decide (k9 < n) = true := decide_eq_true hgo
      go_upto_region 5 with fail
      obtain ⟨C, GW, R, H, O, hne, o0, o1, o2⟩ := HP.out
      obtain ⟨K1, hK1⟩ : ∃ k, K + 2 + 6 * k9 = k := ⟨_, rfl⟩
      have hK1b : K1 ≤ 800000000 := by omega
      rw [hK1] at C
      have hS7 : S9.length ≤ 7 := by have := hlen.out; omega
      have hB := C.base
      refine wp_region_rel [18, 19, 20, 21, 22, 23, 24, 25] (fun L f w' => (Cb gR [.int .i64 0, .slice none 0 0] w') ∧ (¬ L 8 → Cb gH [.int .i64 wt, .slice A1 S9.length kA] w') ∧ (¬ L 4 → Cu B zs p K1 w') ∧ (L 4 → Cu B zs p (K1 + 2) w') ∧ (w.grownBy w' (some p)) ∧ (¬ L 6 → w'.ownsRow (gR + 1) 3 1 (.slice A1 S9.length kA) S9.length (iv S9)) ∧ (L 0 → f 18 = .pointer (some ⟨gH, 1, none⟩)) ∧ (L 1 → f 19 = .slice A1 S9.length kA) ∧ (L 2 → f 20 = .pointer (some ⟨p, 0, none⟩)) ∧ (L 3 → ¬ L 4 → ∃ gl, f 21 = .slice (some ⟨gl, 0, none⟩) 9 9 ∧ gl ≠ p ∧ Lst w' gl (([0, 1, 5, 35, 36, 100, 350, 361, 2000] : List Int).map (Value.int .i64))) ∧ (L 4 → ∃ m : Int, f 22 = .int .i64 m) ∧ (L 5 → ¬ L 6 → ∃ (h9 : Nat) (m : Int), f 23 = .slice (some ⟨h9, 0, none⟩) 1 1 ∧ Cb h9 [.int .i64 m] w') ∧ (L 6 → ∃ g9 kB m, f 24 = .slice (some ⟨g9, 0, none⟩) (S9.length + 1) kB ∧ g9 ≠ gH ∧ w'.ownsRow (gR + 1) 3 1 (.slice (some ⟨g9, 0, none⟩) (S9.length + 1) kB) (S9.length + 1) (iv S9 ++ [.int .i64 m])) ∧ (L 7 → f 25 = .pointer (some ⟨gH, 1, none⟩)) ∧ (L 8 → ∃ g9 kB m, g9 ≠ gH ∧ w'.ownsRow (gR + 1) 3 1 (.slice (some ⟨g9, 0, none⟩) (S9.length + 1) kB) (S9.length + 1) (iv S9 ++ [.int .i64 m]) ∧ Cb gH [.int .i64 wt, .slice (some ⟨g9, 0, none⟩) (S9.length + 1) kB] w')) (by kernel_rfl) (by kernel_rfl) (by kernel_rfl) (fun f => ⟨R.more (Below.refl _ _).drew, fun _ => H.more (Below.refl _ _).drew, fun _ => C.more (Below.refl _ _).drew, fun h => h.elim, grown_more GW (Below.refl _ _).drew, fun _ => own_keep O (Below.refl _ _).drew, fun h => h.elim, fun h => h.elim, fun h => h.elim, fun h => h.elim, fun h => h.elim, fun h => h.elim, fun h => h.elim, fun h => h.elim, fun h => h.elim⟩) ?_ ?_
      · apply RelH.op2
        · intro L f u K hN hS hK
          simp only [puts, Act.put, List.setIfInBounds_toArray, List.set_cons_zero, List.set_cons_succ, upd, Nat.reduceEqDiff, ↓reduceIte, if_true, if_false] at hK ⊢
          have HS9 := Lib.hid hS
          obtain ⟨qR, qH, qC, qC1, qGW, qO, c0, c1, c2, c3, c4, c5, c6, c7, c8⟩ := hS
          clear qH qC qC1 qO c0 c1 c2 c3 c4 c5 c6 c7 c8
          go_simp
          obtain ⟨qR, qH, qC, qC1, qGW, qO, c0, c1, c2, c3, c4, c5, c6, c7, c8⟩ := HS9.out
          exact hK.out _ _ ⟨qR, fun z9 => qH (fun z => z9 (.inl z)), fun z9 => qC (fun z => z9 (.inl z)), fun z8 => qC1 (z8.resolve_right (by decide)), qGW, fun z9 => qO (fun z => z9 (.inl z)), fun _ => rfl, fun h => c1 (h.resolve_right (by decide)), fun h => c2 (h.resolve_right (by decide)), fun h t0 => c3 (h.resolve_right (by decide)) (fun z => t0 (.inl z)), fun h => c4 (h.resolve_right (by decide)), fun h t0 => c5 (h.resolve_right (by decide)) (fun z => t0 (.inl z)), fun h => c6 (h.resolve_right (by decide)), fun h => c7 (h.resolve_right (by decide)), fun h => c8 (h.resolve_right (by decide))⟩ _ rfl
        apply RelH.op2
        · intro L f u K hN hS hK
          simp only [puts, Act.put, List.setIfInBounds_toArray, List.set_cons_zero, List.set_cons_succ, upd, Nat.reduceEqDiff, ↓reduceIte, if_true, if_false] at hK ⊢
          have HS9 := Lib.hid hS
          obtain ⟨qR, qH, qC, qC1, qGW, qO, c0, c1, c2, c3, c4, c5, c6, c7, c8⟩ := hS
          have e0 := c0 (hN.out.2 0 (by decide +kernel))
          have qH1 := qH (hN.out.1 8 (by decide +kernel))
          have X_1 := qH1.cells 1 _ rfl
          clear qH qC qC1 qO c0 c1 c2 c3 c4 c5 c6 c7 c8
          go_simp
          obtain ⟨qR, qH, qC, qC1, qGW, qO, c0, c1, c2, c3, c4, c5, c6, c7, c8⟩ := HS9.out
          exact hK.out _ _ ⟨qR, fun z9 => qH (fun z => z9 (.inl z)), fun z9 => qC (fun z => z9 (.inl z)), fun z8 => qC1 (z8.resolve_right (by decide)), qGW, fun z9 => qO (fun z => z9 (.inl z)), fun h => c0 (h.resolve_right (by decide)), fun _ => rfl, fun h => c2 (h.resolve_right (by decide)), fun h t0 => c3 (h.resolve_right (by decide)) (fun z => t0 (.inl z)), fun h => c4 (h.resolve_right (by decide)), fun h t0 => c5 (h.resolve_right (by decide)) (fun z => t0 (.inl z)), fun h => c6 (h.resolve_right (by decide)), fun h => c7 (h.resolve_right (by decide)), fun h => c8 (h.resolve_right (by decide))⟩ _ (by simp only [e0] <;> rfl)
        apply RelH.op2
        · intro L f u K hN hS hK
          simp only [puts, Act.put, List.setIfInBounds_toArray, List.set_cons_zero, List.set_cons_succ, upd, Nat.reduceEqDiff, ↓reduceIte, if_true, if_false] at hK ⊢
          have HS9 := Lib.hid hS
          obtain ⟨qR, qH, qC, qC1, qGW, qO, c0, c1, c2, c3, c4, c5, c6, c7, c8⟩ := hS
          clear qH qC qC1 qO c0 c1 c2 c3 c4 c5 c6 c7 c8
          go_simp
          obtain ⟨qR, qH, qC, qC1, qGW, qO, c0, c1, c2, c3, c4, c5, c6, c7, c8⟩ := HS9.out
          exact hK.out _ _ ⟨qR, fun z9 => qH (fun z => z9 (.inl z)), fun z9 => qC (fun z => z9 (.inl z)), fun z8 => qC1 (z8.resolve_right (by decide)), qGW, fun z9 => qO (fun z => z9 (.inl z)), fun h => c0 (h.resolve_right (by decide)), fun h => c1 (h.resolve_right (by decide)), fun _ => rfl, fun h t0 => c3 (h.resolve_right (by decide)) (fun z => t0 (.inl z)), fun h => c4 (h.resolve_right (by decide)), fun h t0 => c5 (h.resolve_right (by decide)) (fun z => t0 (.inl z)), fun h => c6 (h.resolve_right (by decide)), fun h => c7 (h.resolve_right (by decide)), fun h => c8 (h.resolve_right (by decide))⟩ _ rfl
        apply RelH.op2
        · intro L f u K hN hS hK
          simp only [puts, Act.put, List.setIfInBounds_toArray, List.set_cons_zero, List.set_cons_succ, upd, Nat.reduceEqDiff, ↓reduceIte, if_true, if_false] at hK ⊢
          have HS9 := Lib.hid hS
          obtain ⟨qR, qH, qC, qC1, qGW, qO, c0, c1, c2, c3, c4, c5, c6, c7, c8⟩ := hS
          have hT := lst_at u [Value.int .i64 0, Value.int .i64 1, Value.int .i64 5, Value.int .i64 35, Value.int .i64 36, Value.int .i64 100, Value.int .i64 350, Value.int .i64 361, Value.int .i64 2000] 3 (g := u.heap.size) rfl
          have hpu : p < u.heap.size := by have := qR.there; omega
          clear qH qC qC1 qO c0 c1 c2 c3 c4 c5 c6 c7 c8
          go_simp
          obtain ⟨qR, qH, qC, qC1, qGW, qO, c0, c1, c2, c3, c4, c5, c6, c7, c8⟩ := HS9.out
          exact hK.out _ _ ⟨qR.alloc _, fun z9 => (qH (fun z => z9 (.inl z))).alloc _, fun z9 => (qC (fun z => z9 (.inl z))).alloc _, fun z8 => (qC1 (z8.resolve_right (by decide))).alloc _, grown_trans qGW (grown_alloc _ _ _), fun z9 => own_keep (qO (fun z => z9 (.inl z))) (al (Below.refl _ _)), fun h => c0 (h.resolve_right (by decide)), fun h => c1 (h.resolve_right (by decide)), fun h => c2 (h.resolve_right (by decide)), fun _ _ => ⟨_, rfl, by omega, hT⟩, fun h => c4 (h.resolve_right (by decide)), fun h t0 => absurd (h.resolve_right (by decide)) (hN.out.1 5 (by decide +kernel)), fun h => absurd (h.resolve_right (by decide)) (hN.out.1 6 (by decide +kernel)), fun h => c7 (h.resolve_right (by decide)), fun h => absurd (h.resolve_right (by decide)) (hN.out.1 8 (by decide +kernel))⟩ _ rfl
        apply RelH.op2
        · intro L f u K hN hS hK
          simp only [puts, Act.put, List.setIfInBounds_toArray, List.set_cons_zero, List.set_cons_succ, upd, Nat.reduceEqDiff, ↓reduceIte, if_true, if_false] at hK ⊢
          have HS9 := Lib.hid hS
          obtain ⟨qR, qH, qC, qC1, qGW, qO, c0, c1, c2, c3, c4, c5, c6, c7, c8⟩ := hS
          have e2 := c2 (hN.out.2 2 (by decide +kernel))
          obtain ⟨gl, e3, h3, T⟩ := c3 (hN.out.2 3 (by decide +kernel)) (hN.out.1 4 (by decide +kernel))
          have HCON := Lib.hid (among_d B zs p K1 u gl 9 [0, 1, 5, 35, 36, 100, 350, 361, 2000] (qC (hN.out.1 4 (by decide +kernel))) (by omega) T h3 (by simp) (by simp))
          clear qH qC qC1 qO c0 c1 c2 c3 c4 c5 c6 c7 c8
          go_simp
          go_at_call 63
          refine HCON.out.mono ?_
          rintro e uw1 ⟨m, hm, rfl, C9, G⟩
          go_wp2_with fail
          obtain ⟨qR, qH, qC, qC1, qGW, qO, c0, c1, c2, c3, c4, c5, c6, c7, c8⟩ := HS9.out
          exact hK.out _ _ ⟨qR.went G (by omega), fun z9 => (qH (fun z => z9 (.inl z))).went G (by omega), fun z9 => (z9 (by simp)).elim, fun _ => C9, grown_trans qGW G, fun z9 => own_grown (qO (fun z => z9 (.inl z))) G (fun k hk => by injection hk with hk; omega), fun h => c0 (h.resolve_right (by decide)), fun h => c1 (h.resolve_right (by decide)), fun h => c2 (h.resolve_right (by decide)), fun h t0 => (t0 (by simp)).elim, fun _ => ⟨m, rfl⟩, fun h t0 => absurd (h.resolve_right (by decide)) (hN.out.1 5 (by decide +kernel)), fun h => absurd (h.resolve_right (by decide)) (hN.out.1 6 (by decide +kernel)), fun h => c7 (h.resolve_right (by decide)), fun h => absurd (h.resolve_right (by decide)) (hN.out.1 8 (by decide +kernel))⟩ _ (by simp only [e2, e3] <;> rfl)
        apply RelH.op2
        · intro L f u K hN hS hK
          simp only [puts, Act.put, List.setIfInBounds_toArray, List.set_cons_zero, List.set_cons_succ, upd, Nat.reduceEqDiff, ↓reduceIte, if_true, if_false] at hK ⊢
          have HS9 := Lib.hid hS
          obtain ⟨qR, qH, qC, qC1, qGW, qO, c0, c1, c2, c3, c4, c5, c6, c7, c8⟩ := hS
          obtain ⟨m, e4⟩ := c4 (hN.out.2 4 (by decide +kernel))
          have hX := Cb.new u [.int .i64 m] 3 (g := u.heap.size) rfl
          clear qH qC qC1 qO c0 c1 c2 c3 c4 c5 c6 c7 c8
          go_simp
          obtain ⟨qR, qH, qC, qC1, qGW, qO, c0, c1, c2, c3, c4, c5, c6, c7, c8⟩ := HS9.out
          exact hK.out _ _ ⟨qR.alloc _, fun z9 => (qH (fun z => z9 (.inl z))).alloc _, fun z9 => (qC (fun z => z9 (.inl z))).alloc _, fun z8 => (qC1 (z8.resolve_right (by decide))).alloc _, grown_trans qGW (grown_alloc _ _ _), fun z9 => own_keep (qO (fun z => z9 (.inl z))) (al (Below.refl _ _)), fun h => c0 (h.resolve_right (by decide)), fun h => c1 (h.resolve_right (by decide)), fun h => c2 (h.resolve_right (by decide)), fun h t0 => (t0 (.inl (hN.out.2 4 (by decide +kernel)))).elim, fun h => c4 (h.resolve_right (by decide)), fun _ _ => ⟨_, m, rfl, hX⟩, fun h => absurd (h.resolve_right (by decide)) (hN.out.1 6 (by decide +kernel)), fun h => c7 (h.resolve_right (by decide)), fun h => absurd (h.resolve_right (by decide)) (hN.out.1 8 (by decide +kernel))⟩ _ (by simp only [e4] <;> rfl)
        apply RelH.op2
        · intro L f u K hN hS hK
          simp only [puts, Act.put, List.setIfInBounds_toArray, List.set_cons_zero, List.set_cons_succ, upd, Nat.reduceEqDiff, ↓reduceIte, if_true, if_false] at hK ⊢
          have HS9 := Lib.hid hS
          obtain ⟨qR, qH, qC, qC1, qGW, qO, c0, c1, c2, c3, c4, c5, c6, c7, c8⟩ := hS
          have e1 := c1 (hN.out.2 1 (by decide +kernel))
          obtain ⟨h9, m, e5, X⟩ := c5 (hN.out.2 5 (by decide +kernel)) (hN.out.1 6 (by decide +kernel))
          have qO1 := qO (hN.out.1 6 (by decide +kernel))
          have hge : ∀ k, (Value.slice A1 S9.length kA).ownBlock = some k → gR < k := fun k hk => by have := own_ge qO1 k hk; omega
          have hsz : gR < u.heap.size := qR.there
          have hsH : gH < u.heap.size := (qH (hN.out.1 8 (by decide +kernel))).there
          refine step_lies rfl (.tmp 19) (.tmp 23) 25 rfl (gR + 1) 3 i0 _ 1 8 Try.underlying25 hi0 hz0 HI1.out HI.out rfl (by decide) (.slice A1 S9.length kA) S9.length (iv S9) e1 qO1 ⟨h9, 0, none⟩ 1 1 [.int .i64 m] e5 rfl (cb_news X) (one_cell rfl) (by decide) (by unfold maxLen; omega) (by omega) (by omega) _ rfl ?_
          intro g9 kB uw1 O2 hg2 hat _
          have hgH : g9 ≠ gH := hat.elim (fun h9 => hne g9 h9) (fun h9 => by omega)
          exact hK.out (.slice (some ⟨g9, 0, none⟩) (S9.length + 1) kB) uw1 ⟨Cb.off qR hg2 (fun k hk => by have := hge k hk; omega), fun z9 => Cb.off (qH (fun z => z9 (.inl z))) hg2 (fun k hk => hne k hk), fun z9 => (z9 (.inl (hN.out.2 4 (by decide +kernel)))).elim, fun z8 => (qC1 (z8.resolve_right (by decide))).grown hg2 (fun k hk => by have := hge k hk; omega), gw_grown qGW hg2 (fun k hk => by have := hge k hk; omega), fun z9 => (z9 (by simp)).elim, fun h => c0 (h.resolve_right (by decide)), fun h => c1 (h.resolve_right (by decide)), fun h => c2 (h.resolve_right (by decide)), fun h t0 => (t0 (.inl (hN.out.2 4 (by decide +kernel)))).elim, fun h => c4 (h.resolve_right (by decide)), fun h t0 => (t0 (by simp)).elim, fun _ => ⟨g9, kB, m, rfl, hgH, O2⟩, fun h => c7 (h.resolve_right (by decide)), fun h => absurd (h.resolve_right (by decide)) (hN.out.1 8 (by decide +kernel))⟩ _ rfl
        apply RelH.op2
        · intro L f u K hN hS hK
          simp only [puts, Act.put, List.setIfInBounds_toArray, List.set_cons_zero, List.set_cons_succ, upd, Nat.reduceEqDiff, ↓reduceIte, if_true, if_false] at hK ⊢
          have HS9 := Lib.hid hS
          obtain ⟨qR, qH, qC, qC1, qGW, qO, c0, c1, c2, c3, c4, c5, c6, c7, c8⟩ := hS
          clear qH qC qC1 qO c0 c1 c2 c3 c4 c5 c6 c7 c8
          go_simp
          obtain ⟨qR, qH, qC, qC1, qGW, qO, c0, c1, c2, c3, c4, c5, c6, c7, c8⟩ := HS9.out
          exact hK.out _ _ ⟨qR, fun z9 => qH (fun z => z9 (.inl z)), fun z9 => qC (fun z => z9 (.inl z)), fun z8 => qC1 (z8.resolve_right (by decide)), qGW, fun z9 => qO (fun z => z9 (.inl z)), fun h => c0 (h.resolve_right (by decide)), fun h => c1 (h.resolve_right (by decide)), fun h => c2 (h.resolve_right (by decide)), fun h t0 => c3 (h.resolve_right (by decide)) (fun z => t0 (.inl z)), fun h => c4 (h.resolve_right (by decide)), fun h t0 => c5 (h.resolve_right (by decide)) (fun z => t0 (.inl z)), fun h => c6 (h.resolve_right (by decide)), fun _ => rfl, fun h => c8 (h.resolve_right (by decide))⟩ _ rfl
        apply RelH.op2
        · intro L f u K hN hS hK
          simp only [puts, Act.put, List.setIfInBounds_toArray, List.set_cons_zero, List.set_cons_succ, upd, Nat.reduceEqDiff, ↓reduceIte, if_true, if_false] at hK ⊢
          have HS9 := Lib.hid hS
          obtain ⟨qR, qH, qC, qC1, qGW, qO, c0, c1, c2, c3, c4, c5, c6, c7, c8⟩ := hS
          obtain ⟨g9, kB, m, e6, hgH, O2⟩ := c6 (hN.out.2 6 (by decide +kernel))
          have e7 := c7 (hN.out.2 7 (by decide +kernel))
          have qH1 := qH (hN.out.1 8 (by decide +kernel))
          have X_1 := qH1.cells 1 _ rfl
          have X_f1 := qH1.free 1 (by simp)
          clear qH qC qC1 qO c0 c1 c2 c3 c4 c5 c6 c7 c8
          go_simp
          obtain ⟨qR, qH, qC, qC1, qGW, qO, c0, c1, c2, c3, c4, c5, c6, c7, c8⟩ := HS9.out
          exact hK.out undef _ ⟨qR.far (k := gH) (by omega) 1 _, fun z9 => (z9 (by simp)).elim, fun z9 => (z9 (.inl (hN.out.2 4 (by decide +kernel)))).elim, fun z8 => (qC1 (z8.resolve_right (by decide))).set (g := gH) (by omega) (by omega) 1 _, grown_set qGW (g := gH) (by omega) 1 _, fun z9 => (z9 (.inl (hN.out.2 6 (by decide +kernel)))).elim, fun h => c0 (h.resolve_right (by decide)), fun h => c1 (h.resolve_right (by decide)), fun h => c2 (h.resolve_right (by decide)), fun h t0 => (t0 (.inl (hN.out.2 4 (by decide +kernel)))).elim, fun h => c4 (h.resolve_right (by decide)), fun h t0 => (t0 (.inl (hN.out.2 6 (by decide +kernel)))).elim, fun h => (let ⟨g8, k8, m8, e1, e2, O3⟩ := (c6 (h.resolve_right (by decide))); ⟨g8, k8, m8, e1, e2, own_far O3 (fun e => e2 e.symm) 1 _⟩), fun h => c7 (h.resolve_right (by decide)), fun _ => ⟨g9, kB, m, hgH, own_far O2 (fun e => hgH e.symm) 1 _, by simpa using qH1.set 1 (.slice (some ⟨g9, 0, none⟩) (S9.length + 1) kB)⟩⟩ _ (by simp only [e6, e7] <;> rfl)
        exact RelH.done
      intro L f V9 hL hS
      simp only [puts, Act.put, List.setIfInBounds_toArray, List.set_cons_zero, List.set_cons_succ]
      obtain ⟨qR, qH, qC, qC1, qGW, qO, c0, c1, c2, c3, c4, c5, c6, c7, c8⟩ := hS
      obtain ⟨g9, kB, m, hgH, O9, H9⟩ := c8 (hL 8 (by decide))
      have C9 := qC1 (hL 4 (by decide))
      have HN9 : Lq B zs p (K1 + 2) w gR gH wt (some ⟨g9, 0, none⟩) kB (S9 ++ [m]) V9 :=
        ⟨C9, qGW, qR, by rw [List.length_append]; exact H9, by rw [List.length_append]; simpa [iv] using O9, fun k hk e2 => hgH ((show g9 = k by simpa [Value.ownBlock] using hk).trans e2), o0, o1, o2⟩
      clear qR qH qC qC1 qGW qO c0 c1 c2 c3 c4 c5 c6 c7 c8 hL C9 O9 H9 C GW R H O HP
      have HP := Lib.hid HN9
      clear HN9
      have e5 : IntKind.i64.wrap ((k9 : Int) + 1) = k9 + 1 := IntWalk.i64_in _ (by omega)
      go_wp2
      go_roundw
      case rel => exact ⟨k9 + 1, some ⟨g9, 0, none⟩, kB, S9 ++ [m], by omega, rfl, Lib.hid (by rw [List.length_append, hlen.out]; rfl), Lib.hid (HP.out.le (by omega))⟩
      case measure => simp [intOf] <;> omega
    · have d1 : decide ((k9 : Int) < n) = false := decide_eq_false (by omega)
      have d2 : decide (k9 < n) = false := decide_eq_false hgo
      have hs6 : S9.length ≤ 6 := by rw [hlen.out]; omega
      go_wp2_with fail
      refine (HP.out.pick (by omega) 32 (by omega) (by omega)).mono ?_
      rintro e V3 ⟨z, hz, rfl, hp1⟩
      replace HP := Lib.hid hp1; clear hp1
      by_cases z0 : z = 0
      · subst z0
        go_wp2_with fail
        refine (HP.out.among (by omega) [-1, 1000001] 2 (by simp) (by simp) rfl).mono ?_
        rintro e V4 ⟨x, hx, rfl, hp1⟩
        replace HP := Lib.hid hp1; clear hp1 hx
        have hc0 := HP.out.H.cells 0 _ rfl
        have hf0 := HP.out.H.free 0 (by simp)
        go_upto_region 11 with fail
        clear hc0 hf0
        have HA := HP.out.setW x
        obtain ⟨X, hX⟩ : ∃ X, V4.setCell ⟨gH, 0, none⟩ (.int .i64 x) = X := ⟨_, rfl⟩
        rw [hX] at HA ⊢
        clear hX
        replace HP := Lib.hid HA; clear HA
        have h0 := HP.out.H.cells 0 _ rfl
        have h1 := HP.out.H.cells 1 _ rfl
        have r0 := HP.out.R.cells 0 _ rfl
        have r1 := HP.out.R.cells 1 _ rfl
        have f0 := HP.out.R.free 0 (by simp)
        have f1 := HP.out.R.free 1 (by simp)
        have hne := HP.out.o2
        go_wp2
        obtain ⟨q0, q1, hfin⟩ := HP.out.fin
        exact bodyPost_ret (v := .agg #[.int .i64 x, .slice A1 S9.length kA]) (by simp [results, Try.results62, go_sem, q0, q1]) rfl ⟨x, A1, kA, S9, (by first | omega | (simp; omega)), rfl, hfin.1, hfin.2.1.le (by omega), hfin.2.2⟩
      have d60 : decide (z = 0) = false := decide_eq_false z0
      by_cases z1 : z = 1
      · subst z1
        go_upto_region 10 with fail
        obtain ⟨C, GW, R, H, O, hne, o0, o1, o2⟩ := HP.out
        obtain ⟨K1, hK1⟩ : ∃ k, K + 2 + 6 * k9 + 2 = k := ⟨_, rfl⟩
        have hK1b : K1 ≤ 800000000 := by omega
        rw [hK1] at C
        have hS7 : S9.length ≤ 7 := by have := hlen.out; omega
        have hB := C.base
        refine wp_region_rel [36, 37, 38, 39, 40, 41, 42, 43] (fun L f w' => (Cb gR [.int .i64 0, .slice none 0 0] w') ∧ (¬ L 8 → Cb gH [.int .i64 wt, .slice A1 S9.length kA] w') ∧ (¬ L 4 → Cu B zs p K1 w') ∧ (L 4 → Cu B zs p (K1 + 2) w') ∧ (w.grownBy w' (some p)) ∧ (¬ L 6 → w'.ownsRow (gR + 1) 3 1 (.slice A1 S9.length kA) S9.length (iv S9)) ∧ (L 0 → f 36 = .pointer (some ⟨gH, 1, none⟩)) ∧ (L 1 → f 37 = .slice A1 S9.length kA) ∧ (L 2 → f 38 = .pointer (some ⟨p, 0, none⟩)) ∧ (L 3 → ¬ L 4 → ∃ gl, f 39 = .slice (some ⟨gl, 0, none⟩) 2 2 ∧ gl ≠ p ∧ Lst w' gl (([0, -1] : List Int).map (Value.int .i64))) ∧ (L 4 → ∃ m : Int, f 40 = .int .i64 m) ∧ (L 5 → ¬ L 6 → ∃ (h9 : Nat) (m : Int), f 41 = .slice (some ⟨h9, 0, none⟩) 1 1 ∧ Cb h9 [.int .i64 m] w') ∧ (L 6 → ∃ g9 kB m, f 42 = .slice (some ⟨g9, 0, none⟩) (S9.length + 1) kB ∧ g9 ≠ gH ∧ w'.ownsRow (gR + 1) 3 1 (.slice (some ⟨g9, 0, none⟩) (S9.length + 1) kB) (S9.length + 1) (iv S9 ++ [.int .i64 m])) ∧ (L 7 → f 43 = .pointer (some ⟨gH, 1, none⟩)) ∧ (L 8 → ∃ g9 kB m, g9 ≠ gH ∧ w'.ownsRow (gR + 1) 3 1 (.slice (some ⟨g9, 0, none⟩) (S9.length + 1) kB) (S9.length + 1) (iv S9 ++ [.int .i64 m]) ∧ Cb gH [.int .i64 wt, .slice (some ⟨g9, 0, none⟩) (S9.length + 1) kB] w')) (by kernel_rfl) (by kernel_rfl) (by kernel_rfl) (fun f => ⟨R.more (Below.refl _ _).drew, fun _ => H.more (Below.refl _ _).drew, fun _ => C.more (Below.refl _ _).drew, fun h => h.elim, grown_more GW (Below.refl _ _).drew, fun _ => own_keep O (Below.refl _ _).drew, fun h => h.elim, fun h => h.elim, fun h => h.elim, fun h => h.elim, fun h => h.elim, fun h => h.elim, fun h => h.elim, fun h => h.elim, fun h => h.elim⟩) ?_ ?_
        · apply RelH.op2
          · intro L f u K hN hS hK
            simp only [puts, Act.put, List.setIfInBounds_toArray, List.set_cons_zero, List.set_cons_succ, upd, Nat.reduceEqDiff, ↓reduceIte, if_true, if_false] at hK ⊢
            have HS9 := Lib.hid hS
            obtain ⟨qR, qH, qC, qC1, qGW, qO, c0, c1, c2, c3, c4, c5, c6, c7, c8⟩ := hS
            clear qH qC qC1 qO c0 c1 c2 c3 c4 c5 c6 c7 c8
            go_simp
            obtain ⟨qR, qH, qC, qC1, qGW, qO, c0, c1, c2, c3, c4, c5, c6, c7, c8⟩ := HS9.out
            exact hK.out _ _ ⟨qR, fun z9 => qH (fun z => z9 (.inl z)), fun z9 => qC (fun z => z9 (.inl z)), fun z8 => qC1 (z8.resolve_right (by decide)), qGW, fun z9 => qO (fun z => z9 (.inl z)), fun _ => rfl, fun h => c1 (h.resolve_right (by decide)), fun h => c2 (h.resolve_right (by decide)), fun h t0 => c3 (h.resolve_right (by decide)) (fun z => t0 (.inl z)), fun h => c4 (h.resolve_right (by decide)), fun h t0 => c5 (h.resolve_right (by decide)) (fun z => t0 (.inl z)), fun h => c6 (h.resolve_right (by decide)), fun h => c7 (h.resolve_right (by decide)), fun h => c8 (h.resolve_right (by decide))⟩ _ rfl
          apply RelH.op2
          · intro L f u K hN hS hK
            simp only [puts, Act.put, List.setIfInBounds_toArray, List.set_cons_zero, List.set_cons_succ, upd, Nat.reduceEqDiff, ↓reduceIte, if_true, if_false] at hK ⊢
            have HS9 := Lib.hid hS
            obtain ⟨qR, qH, qC, qC1, qGW, qO, c0, c1, c2, c3, c4, c5, c6, c7, c8⟩ := hS
            have e0 := c0 (hN.out.2 0 (by decide +kernel))
            have qH1 := qH (hN.out.1 8 (by decide +kernel))
            have X_1 := qH1.cells 1 _ rfl
            clear qH qC qC1 qO c0 c1 c2 c3 c4 c5 c6 c7 c8
            go_simp
            obtain ⟨qR, qH, qC, qC1, qGW, qO, c0, c1, c2, c3, c4, c5, c6, c7, c8⟩ := HS9.out
            exact hK.out _ _ ⟨qR, fun z9 => qH (fun z => z9 (.inl z)), fun z9 => qC (fun z => z9 (.inl z)), fun z8 => qC1 (z8.resolve_right (by decide)), qGW, fun z9 => qO (fun z => z9 (.inl z)), fun h => c0 (h.resolve_right (by decide)), fun _ => rfl, fun h => c2 (h.resolve_right (by decide)), fun h t0 => c3 (h.resolve_right (by decide)) (fun z => t0 (.inl z)), fun h => c4 (h.resolve_right (by decide)), fun h t0 => c5 (h.resolve_right (by decide)) (fun z => t0 (.inl z)), fun h => c6 (h.resolve_right (by decide)), fun h => c7 (h.resolve_right (by decide)), fun h => c8 (h.resolve_right (by decide))⟩ _ (by simp only [e0] <;> rfl)
          apply RelH.op2
          · intro L f u K hN hS hK
            simp only [puts, Act.put, List.setIfInBounds_toArray, List.set_cons_zero, List.set_cons_succ, upd, Nat.reduceEqDiff, ↓reduceIte, if_true, if_false] at hK ⊢
            have HS9 := Lib.hid hS
            obtain ⟨qR, qH, qC, qC1, qGW, qO, c0, c1, c2, c3, c4, c5, c6, c7, c8⟩ := hS
            clear qH qC qC1 qO c0 c1 c2 c3 c4 c5 c6 c7 c8
            go_simp
            obtain ⟨qR, qH, qC, qC1, qGW, qO, c0, c1, c2, c3, c4, c5, c6, c7, c8⟩ := HS9.out
            exact hK.out _ _ ⟨qR, fun z9 => qH (fun z => z9 (.inl z)), fun z9 => qC (fun z => z9 (.inl z)), fun z8 => qC1 (z8.resolve_right (by decide)), qGW, fun z9 => qO (fun z => z9 (.inl z)), fun h => c0 (h.resolve_right (by decide)), fun h => c1 (h.resolve_right (by decide)), fun _ => rfl, fun h t0 => c3 (h.resolve_right (by decide)) (fun z => t0 (.inl z)), fun h => c4 (h.resolve_right (by decide)), fun h t0 => c5 (h.resolve_right (by decide)) (fun z => t0 (.inl z)), fun h => c6 (h.resolve_right (by decide)), fun h => c7 (h.resolve_right (by decide)), fun h => c8 (h.resolve_right (by decide))⟩ _ rfl
          apply RelH.op2
          · intro L f u K hN hS hK
            simp only [puts, Act.put, List.setIfInBounds_toArray, List.set_cons_zero, List.set_cons_succ, upd, Nat.reduceEqDiff, ↓reduceIte, if_true, if_false] at hK ⊢
            have HS9 := Lib.hid hS
            obtain ⟨qR, qH, qC, qC1, qGW, qO, c0, c1, c2, c3, c4, c5, c6, c7, c8⟩ := hS
            have hT := lst_at u [Value.int .i64 0, Value.int .i64 (-1)] 3 (g := u.heap.size) rfl
            have hpu : p < u.heap.size := by have := qR.there; omega
            clear qH qC qC1 qO c0 c1 c2 c3 c4 c5 c6 c7 c8
            go_simp
            obtain ⟨qR, qH, qC, qC1, qGW, qO, c0, c1, c2, c3, c4, c5, c6, c7, c8⟩ := HS9.out
            exact hK.out _ _ ⟨qR.alloc _, fun z9 => (qH (fun z => z9 (.inl z))).alloc _, fun z9 => (qC (fun z => z9 (.inl z))).alloc _, fun z8 => (qC1 (z8.resolve_right (by decide))).alloc _, grown_trans qGW (grown_alloc _ _ _), fun z9 => own_keep (qO (fun z => z9 (.inl z))) (al (Below.refl _ _)), fun h => c0 (h.resolve_right (by decide)), fun h => c1 (h.resolve_right (by decide)), fun h => c2 (h.resolve_right (by decide)), fun _ _ => ⟨_, rfl, by omega, hT⟩, fun h => c4 (h.resolve_right (by decide)), fun h t0 => absurd (h.resolve_right (by decide)) (hN.out.1 5 (by decide +kernel)), fun h => absurd (h.resolve_right (by decide)) (hN.out.1 6 (by decide +kernel)), fun h => c7 (h.resolve_right (by decide)), fun h => absurd (h.resolve_right (by decide)) (hN.out.1 8 (by decide +kernel))⟩ _ rfl
          apply RelH.op2
          · intro L f u K hN hS hK
            simp only [puts, Act.put, List.setIfInBounds_toArray, List.set_cons_zero, List.set_cons_succ, upd, Nat.reduceEqDiff, ↓reduceIte, if_true, if_false] at hK ⊢
            have HS9 := Lib.hid hS
            obtain ⟨qR, qH, qC, qC1, qGW, qO, c0, c1, c2, c3, c4, c5, c6, c7, c8⟩ := hS
            have e2 := c2 (hN.out.2 2 (by decide +kernel))
            obtain ⟨gl, e3, h3, T⟩ := c3 (hN.out.2 3 (by decide +kernel)) (hN.out.1 4 (by decide +kernel))
            have HCON := Lib.hid (among_d B zs p K1 u gl 2 [0, -1] (qC (hN.out.1 4 (by decide +kernel))) (by omega) T h3 (by simp) (by simp))
            clear qH qC qC1 qO c0 c1 c2 c3 c4 c5 c6 c7 c8
            go_simp
            go_at_call 63
            refine HCON.out.mono ?_
            rintro e uw1 ⟨m, hm, rfl, C9, G⟩
            go_wp2_with fail
            obtain ⟨qR, qH, qC, qC1, qGW, qO, c0, c1, c2, c3, c4, c5, c6, c7, c8⟩ := HS9.out
            exact hK.out _ _ ⟨qR.went G (by omega), fun z9 => (qH (fun z => z9 (.inl z))).went G (by omega), fun z9 => (z9 (by simp)).elim, fun _ => C9, grown_trans qGW G, fun z9 => own_grown (qO (fun z => z9 (.inl z))) G (fun k hk => by injection hk with hk; omega), fun h => c0 (h.resolve_right (by decide)), fun h => c1 (h.resolve_right (by decide)), fun h => c2 (h.resolve_right (by decide)), fun h t0 => (t0 (by simp)).elim, fun _ => ⟨m, rfl⟩, fun h t0 => absurd (h.resolve_right (by decide)) (hN.out.1 5 (by decide +kernel)), fun h => absurd (h.resolve_right (by decide)) (hN.out.1 6 (by decide +kernel)), fun h => c7 (h.resolve_right (by decide)), fun h => absurd (h.resolve_right (by decide)) (hN.out.1 8 (by decide +kernel))⟩ _ (by simp only [e2, e3] <;> rfl)
          apply RelH.op2
          · intro L f u K hN hS hK
            simp only [puts, Act.put, List.setIfInBounds_toArray, List.set_cons_zero, List.set_cons_succ, upd, Nat.reduceEqDiff, ↓reduceIte, if_true, if_false] at hK ⊢
            have HS9 := Lib.hid hS
            obtain ⟨qR, qH, qC, qC1, qGW, qO, c0, c1, c2, c3, c4, c5, c6, c7, c8⟩ := hS
            obtain ⟨m, e4⟩ := c4 (hN.out.2 4 (by decide +kernel))
            have hX := Cb.new u [.int .i64 m] 3 (g := u.heap.size) rfl
            clear qH qC qC1 qO c0 c1 c2 c3 c4 c5 c6 c7 c8
            go_simp
            obtain ⟨qR, qH, qC, qC1, qGW, qO, c0, c1, c2, c3, c4, c5, c6, c7, c8⟩ := HS9.out
            exact hK.out _ _ ⟨qR.alloc _, fun z9 => (qH (fun z => z9 (.inl z))).alloc _, fun z9 => (qC (fun z => z9 (.inl z))).alloc _, fun z8 => (qC1 (z8.resolve_right (by decide))).alloc _, grown_trans qGW (grown_alloc _ _ _), fun z9 => own_keep (qO (fun z => z9 (.inl z))) (al (Below.refl _ _)), fun h => c0 (h.resolve_right (by decide)), fun h => c1 (h.resolve_right (by decide)), fun h => c2 (h.resolve_right (by decide)), fun h t0 => (t0 (.inl (hN.out.2 4 (by decide +kernel)))).elim, fun h => c4 (h.resolve_right (by decide)), fun _ _ => ⟨_, m, rfl, hX⟩, fun h => absurd (h.resolve_right (by decide)) (hN.out.1 6 (by decide +kernel)), fun h => c7 (h.resolve_right (by decide)), fun h => absurd (h.resolve_right (by decide)) (hN.out.1 8 (by decide +kernel))⟩ _ (by simp only [e4] <;> rfl)
          apply RelH.op2
          · intro L f u K hN hS hK
            simp only [puts, Act.put, List.setIfInBounds_toArray, List.set_cons_zero, List.set_cons_succ, upd, Nat.reduceEqDiff, ↓reduceIte, if_true, if_false] at hK ⊢
            have HS9 := Lib.hid hS
            obtain ⟨qR, qH, qC, qC1, qGW, qO, c0, c1, c2, c3, c4, c5, c6, c7, c8⟩ := hS
            have e1 := c1 (hN.out.2 1 (by decide +kernel))
            obtain ⟨h9, m, e5, X⟩ := c5 (hN.out.2 5 (by decide +kernel)) (hN.out.1 6 (by decide +kernel))
            have qO1 := qO (hN.out.1 6 (by decide +kernel))
            have hge : ∀ k, (Value.slice A1 S9.length kA).ownBlock = some k → gR < k := fun k hk => by have := own_ge qO1 k hk; omega
            have hsz : gR < u.heap.size := qR.there
            have hsH : gH < u.heap.size := (qH (hN.out.1 8 (by decide +kernel))).there
            refine step_lies rfl (.tmp 37) (.tmp 41) 25 rfl (gR + 1) 3 i0 _ 1 8 Try.underlying25 hi0 hz0 HI1.out HI.out rfl (by decide) (.slice A1 S9.length kA) S9.length (iv S9) e1 qO1 ⟨h9, 0, none⟩ 1 1 [.int .i64 m] e5 rfl (cb_news X) (one_cell rfl) (by decide) (by unfold maxLen; omega) (by omega) (by omega) _ rfl ?_
            intro g9 kB uw1 O2 hg2 hat _
            have hgH : g9 ≠ gH := hat.elim (fun h9 => hne g9 h9) (fun h9 => by omega)
            exact hK.out (.slice (some ⟨g9, 0, none⟩) (S9.length + 1) kB) uw1 ⟨Cb.off qR hg2 (fun k hk => by have := hge k hk; omega), fun z9 => Cb.off (qH (fun z => z9 (.inl z))) hg2 (fun k hk => hne k hk), fun z9 => (z9 (.inl (hN.out.2 4 (by decide +kernel)))).elim, fun z8 => (qC1 (z8.resolve_right (by decide))).grown hg2 (fun k hk => by have := hge k hk; omega), gw_grown qGW hg2 (fun k hk => by have := hge k hk; omega), fun z9 => (z9 (by simp)).elim, fun h => c0 (h.resolve_right (by decide)), fun h => c1 (h.resolve_right (by decide)), fun h => c2 (h.resolve_right (by decide)), fun h t0 => (t0 (.inl (hN.out.2 4 (by decide +kernel)))).elim, fun h => c4 (h.resolve_right (by decide)), fun h t0 => (t0 (by simp)).elim, fun _ => ⟨g9, kB, m, rfl, hgH, O2⟩, fun h => c7 (h.resolve_right (by decide)), fun h => absurd (h.resolve_right (by decide)) (hN.out.1 8 (by decide +kernel))⟩ _ rfl
          apply RelH.op2
          · intro L f u K hN hS hK
            simp only [puts, Act.put, List.setIfInBounds_toArray, List.set_cons_zero, List.set_cons_succ, upd, Nat.reduceEqDiff, ↓reduceIte, if_true, if_false] at hK ⊢
            have HS9 := Lib.hid hS
            obtain ⟨qR, qH, qC, qC1, qGW, qO, c0, c1, c2, c3, c4, c5, c6, c7, c8⟩ := hS
            clear qH qC qC1 qO c0 c1 c2 c3 c4 c5 c6 c7 c8
            go_simp
            obtain ⟨qR, qH, qC, qC1, qGW, qO, c0, c1, c2, c3, c4, c5, c6, c7, c8⟩ := HS9.out
            exact hK.out _ _ ⟨qR, fun z9 => qH (fun z => z9 (.inl z)), fun z9 => qC (fun z => z9 (.inl z)), fun z8 => qC1 (z8.resolve_right (by decide)), qGW, fun z9 => qO (fun z => z9 (.inl z)), fun h => c0 (h.resolve_right (by decide)), fun h => c1 (h.resolve_right (by decide)), fun h => c2 (h.resolve_right (by decide)), fun h t0 => c3 (h.resolve_right (by decide)) (fun z => t0 (.inl z)), fun h => c4 (h.resolve_right (by decide)), fun h t0 => c5 (h.resolve_right (by decide)) (fun z => t0 (.inl z)), fun h => c6 (h.resolve_right (by decide)), fun _ => rfl, fun h => c8 (h.resolve_right (by decide))⟩ _ rfl
          apply RelH.op2
          · intro L f u K hN hS hK
            simp only [puts, Act.put, List.setIfInBounds_toArray, List.set_cons_zero, List.set_cons_succ, upd, Nat.reduceEqDiff, ↓reduceIte, if_true, if_false] at hK ⊢
            have HS9 := Lib.hid hS
            obtain ⟨qR, qH, qC, qC1, qGW, qO, c0, c1, c2, c3, c4, c5, c6, c7, c8⟩ := hS
            obtain ⟨g9, kB, m, e6, hgH, O2⟩ := c6 (hN.out.2 6 (by decide +kernel))
            have e7 := c7 (hN.out.2 7 (by decide +kernel))
            have qH1 := qH (hN.out.1 8 (by decide +kernel))
            have X_1 := qH1.cells 1 _ rfl
            have X_f1 := qH1.free 1 (by simp)
            clear qH qC qC1 qO c0 c1 c2 c3 c4 c5 c6 c7 c8
            go_simp
            obtain ⟨qR, qH, qC, qC1, qGW, qO, c0, c1, c2, c3, c4, c5, c6, c7, c8⟩ := HS9.out
            exact hK.out undef _ ⟨qR.far (k := gH) (by omega) 1 _, fun z9 => (z9 (by simp)).elim, fun z9 => (z9 (.inl (hN.out.2 4 (by decide +kernel)))).elim, fun z8 => (qC1 (z8.resolve_right (by decide))).set (g := gH) (by omega) (by omega) 1 _, grown_set qGW (g := gH) (by omega) 1 _, fun z9 => (z9 (.inl (hN.out.2 6 (by decide +kernel)))).elim, fun h => c0 (h.resolve_right (by decide)), fun h => c1 (h.resolve_right (by decide)), fun h => c2 (h.resolve_right (by decide)), fun h t0 => (t0 (.inl (hN.out.2 4 (by decide +kernel)))).elim, fun h => c4 (h.resolve_right (by decide)), fun h t0 => (t0 (.inl (hN.out.2 6 (by decide +kernel)))).elim, fun h => (let ⟨g8, k8, m8, e1, e2, O3⟩ := (c6 (h.resolve_right (by decide))); ⟨g8, k8, m8, e1, e2, own_far O3 (fun e => e2 e.symm) 1 _⟩), fun h => c7 (h.resolve_right (by decide)), fun _ => ⟨g9, kB, m, hgH, own_far O2 (fun e => hgH e.symm) 1 _, by simpa using qH1.set 1 (.slice (some ⟨g9, 0, none⟩) (S9.length + 1) kB)⟩⟩ _ (by simp only [e6, e7] <;> rfl)
          exact RelH.done
        intro L f V9 hL hS
        simp only [puts, Act.put, List.setIfInBounds_toArray, List.set_cons_zero, List.set_cons_succ]
        obtain ⟨qR, qH, qC, qC1, qGW, qO, c0, c1, c2, c3, c4, c5, c6, c7, c8⟩ := hS
        obtain ⟨g9, kB, m, hgH, O9, H9⟩ := c8 (hL 8 (by decide))
        have C9 := qC1 (hL 4 (by decide))
        have HN9 : Lq B zs p (K1 + 2) w gR gH wt (some ⟨g9, 0, none⟩) kB (S9 ++ [m]) V9 :=
          ⟨C9, qGW, qR, by rw [List.length_append]; exact H9, by rw [List.length_append]; simpa [iv] using O9, fun k hk e2 => hgH ((show g9 = k by simpa [Value.ownBlock] using hk).trans e2), o0, o1, o2⟩
        clear qR qH qC qC1 qGW qO c0 c1 c2 c3 c4 c5 c6 c7 c8 hL C9 O9 H9 C GW R H O HP
        have HP := Lib.hid HN9
        clear HN9
        obtain ⟨L2, hL2⟩ : ∃ L2, S9 ++ [m] = L2 := ⟨_, rfl⟩
        have hl2 : L2.length = S9.length + 1 := by rw [← hL2]; simp
        rw [hL2] at HP
        clear hL2
        have hl7 : L2.length ≤ 7 := by omega
        clear hl2
        go_upto_region 11 with fail
        have h0 := HP.out.H.cells 0 _ rfl
        have h1 := HP.out.H.cells 1 _ rfl
        have r0 := HP.out.R.cells 0 _ rfl
        have r1 := HP.out.R.cells 1 _ rfl
        have f0 := HP.out.R.free 0 (by simp)
        have f1 := HP.out.R.free 1 (by simp)
        have hne := HP.out.o2
        go_wp2
        obtain ⟨q0, q1, hfin⟩ := HP.out.fin
        exact bodyPost_ret (v := .agg #[.int .i64 wt, .slice (some ⟨g9, 0, none⟩) L2.length kB]) (by simp [results, Try.results62, go_sem, q0, q1]) rfl ⟨wt, (some ⟨g9, 0, none⟩), kB, L2, (by first | omega | (simp; omega)), rfl, hfin.1, hfin.2.1.le (by omega), hfin.2.2⟩
      have d61 : decide (z = 1) = false := decide_eq_false z1
      go_upto_region 11 with fail
      have h0 := HP.out.H.cells 0 _ rfl
      have h1 := HP.out.H.cells 1 _ rfl
      have r0 := HP.out.R.cells 0 _ rfl
      have r1 := HP.out.R.cells 1 _ rfl
      have f0 := HP.out.R.free 0 (by simp)
      have f1 := HP.out.R.free 1 (by simp)
      have hne := HP.out.o2
      go_wp2
      obtain ⟨q0, q1, hfin⟩ := HP.out.fin
      exact bodyPost_ret (v := .agg #[.int .i64 wt, .slice A1 S9.length kA]) (by simp [results, Try.results62, go_sem, q0, q1]) rfl ⟨wt, A1, kA, S9, (by first | omega | (simp; omega)), rfl, hfin.1, hfin.2.1.le (by omega), hfin.2.2⟩
end Go.Proofs.Ythilbpklmjpmcaa.DLiq
