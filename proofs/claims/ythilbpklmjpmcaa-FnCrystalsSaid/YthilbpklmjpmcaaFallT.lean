/- l10Fall, FallOut, AfterDrying: the model's and the program's. Made by tools/mk_fall.py. -/
import Derived.Test.YthilbpklmjpmcaaFallS
namespace Go.Proofs.Ythilbpklmjpmcaa.FallT
open Go.RowKit Go.Proofs.Ythilbpklmjpmcaa.Mem Go.Proofs.Ythilbpklmjpmcaa.Base Go.Proofs.Ythilbpklmjpmcaa.SInt Go.Proofs.Ythilbpklmjpmcaa.Regn Go.Proofs.Ythilbpklmjpmcaa.Boxes Go.Proofs.Ythilbpklmjpmcaa.Keep Go.Proofs.Ythilbpklmjpmcaa.Within Go.Proofs.Ythilbpklmjpmcaa.Nest Go.Proofs.Ythilbpklmjpmcaa.SKind Go.Proofs.Ythilbpklmjpmcaa.KindP Go.Proofs.Ythilbpklmjpmcaa.KindG Go.Proofs.Ythilbpklmjpmcaa.LiqP Go.Proofs.Ythilbpklmjpmcaa.LiqG Go.Proofs.Ythilbpklmjpmcaa.FallP Go.Proofs.Ythilbpklmjpmcaa.FallS
set_option linter.unusedVariables false
set_option linter.unusedSimpArgs false
set_option maxRecDepth 100000
theorem cell_kept {w w' : World} {b o : Nat} {v : Value} (h : w.cell? ⟨b, o, none⟩ = some v) (hb : Below w.heap.size w w') : w'.cell? ⟨b, o, none⟩ = some v :=
  ((bcell hb).1 _ _ (World.block_lt_of_cell? w _ h)).trans h
theorem cell_one (u : World) (x : Value) (T : TypeId) : ∀ j v, [x][j]? = some v → (u.alloc (.cells #[x] T)).cell? (Addr.add ⟨u.heap.size, 0, none⟩ j) = some v := by
  intro j v hv
  have h1 := (Box.new (w := u) (Below.refl _ u) [x] T (g := u.heap.size) rfl).cells j v hv
  have e : (Addr.add ⟨u.heap.size, 0, none⟩ j) = ⟨u.heap.size, j, none⟩ := by
    unfold Addr.add
    split
    · rename_i h; subst h; rfl
    · simp
  rw [e]; exact h1
theorem row_snoc {w : World} {base : Nat} {A1 : Option Addr} {c1 : Nat} {L : List Int} {x : Int} (h : w.ownsRow base 3 1 (.slice A1 (L.length + 1) c1) (L.length + 1) (iv L ++ [.int .i64 x])) :
    RowOwn w base ⟨A1, c1, L ++ [x]⟩ := by
  have e : iv (L ++ [x]) = iv L ++ [.int .i64 x] := by simp [iv]
  show w.ownsRow base 3 1 (.slice A1 (L ++ [x]).length c1) (L ++ [x]).length (iv (L ++ [x]))
  rw [e, List.length_append]; exact h
theorem step_lies {P : Program} {w : World} {yf : Nat → Option Bool} {o : Oper} {a : Act} {K : Act → World → Prop} {Q : Exit → Act → World → Prop} {E : Prop} (hgd : o.guard = none) (s x : Operand) (t : TypeId)
    (ho : o.op = .call { callee := .builtin .append, args := #[s, x], argTypes := #[t, t] })
    (base : Nat) (e : TypeId) (i : TypeInfo) (z : Value) (size bytes : Nat) (ht : P.underlying t = some (.slice e)) (hi : P.info? e = some i) (hz : i.zero = some z)
    (hsize : i.size = size) (hby : i.bytes = bytes) (hzs : z.cells.size = size) (hsz : 0 < size)
    (v : Value) (n : Nat) (xs : List Value) (hs : a.eval s = v) (hown : w.ownsRow base e size v n xs)
    (ad : Addr) (m c : Nat) (news : List Value) (hx : a.eval x = .slice (some ad) m c) (hl : news.length = m * size) (hnews : ∀ j u, news[j]? = some u → w.cell? (ad.add j) = some u) (h1 : ∀ u ∈ news, u.oneCell' = true)
    (hm : 0 < m) (h63 : n + m ≤ maxLen) (hbytes : (n + m) * bytes ≤ 140737488355328) (hbase : base ≤ w.heap.size) (H : Nat) (hH : w.heap.size = H)
    (h : ∀ g cap w', w'.ownsRow base e size (.slice (some ⟨g, 0, none⟩) (n + m) cap) (n + m) (xs ++ news) → w.grownBy w' v.ownBlock → (v.ownBlock = some g ∨ g = H) → g < w'.heap.size → K (a.put o.dst (.slice (some ⟨g, 0, none⟩) (n + m) cap)) w') :
    if Region.wanted o yf = true then Oper.wp P o a w K Q else E := by
  rw [if_pos (by simp [Region.wanted, hgd])]
  exact wp_append_lies w s x t ho base e i z size bytes ht hi hz hsize hby hzs hsz v n xs hs hown ad m c news hx hl hnews h1 hm h63 hbytes hbase H hH h
theorem info_int : (Try.prog.info? 3).map (fun i => (i.zero, i.size, i.bytes)) = some (some (.int .i64 0), 1, 8) := by kernel_rfl
theorem row_new (W : World) {lo : Nat} (h : lo ≤ W.heap.size) : RowOwn (W.alloc (.cells #[] 3)) lo ⟨some ⟨W.heap.size, 0, none⟩, 0, []⟩ := by
  have := World.ownsRow_made (e := 3) (size := 1) W #[] 0 h (by unfold maxLen; omega) rfl
  exact this
theorem rd_get {w : World} {B b o : Nat} {xs : List Value} (h : Rd w B (some ⟨b, o, none⟩) xs) {j : Nat} {v : Value} (hv : xs[j]? = some v) : w.cell? ⟨b, o + j, none⟩ = some v := by
  rcases h with rfl | ⟨b', o', hA, _, hc⟩
  · simp at hv
  · injection hA with hA; injection hA with h1 h2 h3
    subst h1; subst h2; exact hc j v hv
theorem two_cells {g : Nat} {x y : Value} {w W : World} (h : Box g [x, y] w W) (a b : Value) :
    ((W.setCell ⟨g, 0, none⟩ a).setCell ⟨g, 1, none⟩ b).cell? ⟨g, 0, none⟩ = some a ∧ ((W.setCell ⟨g, 0, none⟩ a).setCell ⟨g, 1, none⟩ b).cell? ⟨g, 1, none⟩ = some b :=
  ⟨((h.set 0 a).set 1 b).cells 0 a rfl, ((h.set 0 a).set 1 b).cells 1 b rfl⟩
/-- a liquor and a list, each in memory of its own. -/
def FPost (wv : Int) (L1 L2 : List Int) (w : World) (e : Ending) (w' : World) : Prop :=
  ∃ A1 q1 A2 q2, e = .returned (.tuple #[.agg #[.int .i64 wv, .slice A1 L1.length q1], .slice A2 L2.length q2]) ∧ Two w' w.heap.size [] ⟨A1, q1, L1⟩ ⟨A2, q2, L2⟩ ∧ Below w.heap.size w w'
set_option maxHeartbeats 4000000 in
theorem fall_spec (P : Option Addr) (cap : Nat) (l : List R) (wt : Int) (A : Option Addr) (c : Nat) (s : List Int) (w : World) (h : Ak w P l A s) (V : VldS l s) (h0 : 0 ≤ wt) (h1 : wt ≤ 1000000) :
    Calls Try.prog 56 #[.slice P l.length cap, .agg #[.int .i64 wt, .slice A s.length c]] w (FPost (fw l s wt l.length) (stayL l s wt l.length) (goneL l s wt l.length) w) := by
  obtain ⟨i0, hi0, hz0, hz1, hz2⟩ := info_parts info_int
  have HI := Lib.hid hz2; clear hz2
  have HI1 := Lib.hid hz1; clear hz1
  have HA := Lib.hid h
  have HV := Lib.hid V
  have hln : l.length ≤ 6 := (good_len V.good).2
  have HLS := Lib.hid V.len
  have HWT := Lib.hid (And.intro h0 h1)
  clear h V
  have hsz : ((w.alloc (.cells #[.int .i64 wt, .slice A s.length c] 27)).alloc (.cells #[.int .i64 0, .slice none 0 0] 27)).heap.size = w.heap.size + 1 + 1 := by simp only [size_alloc']
  replace hsz := Lib.hid hsz
  go_enter Try.func56, Try.ntmps56
  go_wp2_with fail
  have X := (Box.new (Below.refl _ w) [.int .i64 wt, .slice A s.length c] 27 (g := w.heap.size) rfl).alloc (.cells #[.int .i64 0, .slice none 0 0] 27)
  have R := Box.new (al (Below.refl _ w) (o := (.cells #[.int .i64 wt, .slice A s.length c] 27))) [.int .i64 0, .slice none 0 0] 27 (g := w.heap.size + 1) (by simp only [size_alloc'])
  generalize ((w.alloc (.cells #[.int .i64 wt, .slice A s.length c] 27)).alloc (.cells #[.int .i64 0, .slice none 0 0] 27)) = W1 at X R hsz ⊢
  have X_0 := X.cells 0 _ rfl
  have X_1 := X.cells 1 _ rfl
  have X_f0 := X.free 0 (by simp)
  have X_f1 := X.free 1 (by simp)
  have X_t := X.there
  have R_0 := R.cells 0 _ rfl
  have R_1 := R.cells 1 _ rfl
  have R_f0 := R.free 0 (by simp)
  have R_f1 := R.free 1 (by simp)
  have R_t := R.there
  have X_0 := X.cells 0 _ rfl
  have X_1 := X.cells 1 _ rfl
  have X_f0 := X.free 0 (by simp)
  have X_f1 := X.free 1 (by simp)
  have X_t := X.there
  have R_0 := R.cells 0 _ rfl
  have R_1 := R.cells 1 _ rfl
  have R_f0 := R.free 0 (by simp)
  have R_f1 := R.free 1 (by simp)
  have R_t := R.there
  go_upto_region 3 with fail
  have hws := hsz.out
  have T0 : Two (((W1.alloc (.cells #[] 3)).alloc (.cells #[] 3)).alloc (.cells #[.int .i64 wt, .slice (some ⟨w.heap.size + 1 + 1, 0, none⟩) 0 0] 27)) w.heap.size [w.heap.size, w.heap.size + 1, w.heap.size + 1 + 1 + 1 + 1] ⟨some ⟨w.heap.size + 1 + 1, 0, none⟩, 0, []⟩ ⟨some ⟨w.heap.size + 1 + 1 + 1, 0, none⟩, 0, []⟩ := by
    have e1 := row_new W1 (lo := w.heap.size) (by omega)
    have e2 := row_new (W1.alloc (.cells #[] 3)) (lo := w.heap.size) (by rw [size_alloc']; omega)
    rw [size_alloc', hws] at e2
    rw [hws] at e1
    refine ⟨(e1.keep (al (Below.refl _ _))).keep (al (Below.refl _ _)), e2.keep (al (Below.refl _ _)), ?_, ?_, ?_⟩
    all_goals
      intro k hk
      simp only [Row.blk, Row.val, Value.ownBlock, Option.some.injEq, List.mem_cons, List.mem_nil_iff, or_false, ne_eq] at hk ⊢
      omega
  have O0 : Box (w.heap.size + 1 + 1 + 1 + 1) [.int .i64 wt, .slice (some ⟨w.heap.size + 1 + 1, 0, none⟩) 0 0] w (((W1.alloc (.cells #[] 3)).alloc (.cells #[] 3)).alloc (.cells #[.int .i64 wt, .slice (some ⟨w.heap.size + 1 + 1, 0, none⟩) 0 0] 27)) :=
    Box.new (al (al X.below)) _ _ (by simp only [size_alloc', hws])
  have X0 := ((X.alloc (.cells #[] 3)).alloc (.cells #[] 3)).alloc (.cells #[.int .i64 wt, .slice (some ⟨w.heap.size + 1 + 1, 0, none⟩) 0 0] 27)
  have R0 := ((R.alloc (.cells #[] 3)).alloc (.cells #[] 3)).alloc (.cells #[.int .i64 wt, .slice (some ⟨w.heap.size + 1 + 1, 0, none⟩) 0 0] 27)
  clear X_0 X_1 X_f0 X_f1 X_t
  clear R_0 R_1 R_f0 R_f1 R_t
  clear X R
  generalize (((W1.alloc (.cells #[] 3)).alloc (.cells #[] 3)).alloc (.cells #[.int .i64 wt, .slice (some ⟨w.heap.size + 1 + 1, 0, none⟩) 0 0] 27)) = W3 at X0 R0 O0 T0 ⊢
  obtain ⟨gO, hgO⟩ : ∃ g, w.heap.size + 1 + 1 + 1 + 1 = g := ⟨_, rfl⟩
  rw [hgO] at O0 T0 ⊢
  have hgX : gO ≠ w.heap.size := by omega
  have hgR : gO ≠ w.heap.size + 1 := by omega
  clear hgO hws hsz
  go_loopw [7, 8] (fun q i wr => ∃ (k : Nat) (A1 : Option Addr) (q1 : Nat) (A2 : Option Addr) (q2 : Nat) (L1 L2 : List Int) (wk : Int), k ≤ l.length ∧ i = .int .i64 k ∧ q = .slice A2 L2.length q2 ∧ Hid (L1 = stayL l s wt k ∧ L2 = goneL l s wt k ∧ wk = fw l s wt k) ∧
    Box w.heap.size [.int .i64 wt, .slice A s.length c] w wr ∧ Box (w.heap.size + 1) [.int .i64 0, .slice none 0 0] w wr ∧ Box gO [.int .i64 wk, .slice A1 L1.length q1] w wr ∧ Two wr w.heap.size [w.heap.size, w.heap.size + 1, gO] ⟨A1, q1, L1⟩ ⟨A2, q2, L2⟩) (fun _ i _ => l.length - (intOf i).toNat)
  case atStart => exact ⟨0, _, _, _, _, [], [], wt, Nat.zero_le _, rfl, rfl, Lib.hid ⟨rfl, rfl, rfl⟩, X0, R0, O0, T0⟩
  case round =>
    clear X0 R0 O0 T0
    obtain ⟨k, A1, q1, A2, q2, L1, L2, wk, hk, rfl, rfl, HL, X, R, O, T⟩ := hrel
    by_cases hlt : k < l.length
    · have hks : k < s.length := by have := HLS.out; omega
      obtain ⟨b, o, rfl, hb, hc⟩ := HA.out.k.at (k := k * 3) (by rw [flat_n]; omega)
      obtain ⟨b', o', rfl, hb', hc'⟩ := HA.out.sa.at (k := k) (by rw [iv_len]; exact hks)
      obtain ⟨x, hx⟩ : ∃ x, l[k] = x := ⟨_, rfl⟩
      obtain ⟨y, hy⟩ : ∃ y, s[k] = y := ⟨_, rfl⟩
      obtain ⟨c0, c1, c2⟩ := cells3 (Below.refl _ w) hb hc hlt hx
      have hc3 : w.cell? ⟨b', o' + k, none⟩ = some (.int .i64 y) := by rw [← hy]; exact cell_s (Below.refl _ w) hb' hc' hks
      have hkd := kind_of (good_kind HV.out.good hlt)
      have hsl := HV.out.salt k hks
      rw [hx] at hkd
      rw [hy] at hsl
      have hwk := fw_range HV.out HWT.out.1 HWT.out.2 k hk
      have hfr := fn_range (w0 := wt) HV.out hlt hwk.1 hwk.2
      have hfn : fallAt l s k (fw l s wt k) = fn l s wt k := rfl
      rw [hfn] at hfr
      obtain ⟨n, hn⟩ : ∃ n, fn l s wt k = n := ⟨_, rfl⟩
      have hfe : fallI x.f1 x.f2 y wk = n := by rw [← hn, HL.out.2.2, ← hfn]; unfold fallAt; rw [atK_eq hlt, at0_eq hks, hx, hy]
      have hws2 : fw l s wt (k + 1) = wk - n * x.f1 / 10 := by rw [fw_succ, hn, atK_eq hlt, hx, HL.out.2.2]
      have hwk1 := fw_range HV.out HWT.out.1 HWT.out.2 (k + 1) (by omega)
      rw [hn, at0_eq hks, hy, atK_eq hlt, hx, ← HL.out.2.2] at hfr
      rw [← HL.out.2.2] at hwk
      rw [hws2] at hwk1
      have HW2 := Lib.hid hws2
      have HNN := Lib.hid hn
      have HS2 := Lib.hid (show stayL l s wt (k + 1) = L1 ++ [y - n] by rw [stay_succ, HL.out.1, hn, at0_eq hks, hy])
      have HG2 := Lib.hid (show goneL l s wt (k + 1) = L2 ++ [n] by rw [gone_succ, HL.out.2.1, hn])
      have hl1 : L1.length = k := by rw [HL.out.1, stay_len]
      have hl2 : L2.length = k := by rw [HL.out.2.1, gone_len]
      have hl1b : L1.length ≤ 6 := by omega
      have hl2b : L2.length ≤ 6 := by omega
      have HLT := Lib.hid hlt
      have hnb : 0 ≤ n ∧ n ≤ 1000000 := by omega
      have hnk : 0 ≤ n * x.f1 ∧ n * x.f1 ≤ 9000000 := ⟨hfr.2.2.2, Int.le_trans (Int.mul_le_mul hnb.2 hkd.1.2 hkd.1.1 (by omega)) (by omega)⟩
      have e1 : IntKind.i64.wrap (y - n) = y - n := IntWalk.i64_in _ (by omega)
      have e2 : IntKind.i64.wrap (n * x.f1) = n * x.f1 := IntWalk.i64_in _ (by omega)
      have e3 : (n * x.f1).tdiv 10 = n * x.f1 / 10 := Int.tdiv_eq_ediv_of_nonneg hnk.1
      have e4 : IntKind.i64.wrap (n * x.f1 / 10) = n * x.f1 / 10 := IntWalk.i64_in _ (by omega)
      have e5 : IntKind.i64.wrap (wk - n * x.f1 / 10) = wk - n * x.f1 / 10 := IntWalk.i64_in _ (by omega)
      clear hc hc' hx hy hn hfn hws2 hl1 hl2 hfr hwk1 hlt
      go_wp2_with fail
      have c0_c := ((bcell X.below).1 _ _ hb).trans c0
      have c1_c := ((bcell X.below).1 _ _ hb).trans c1
      have c2_c := ((bcell X.below).1 _ _ hb).trans c2
      have hc3_c := ((bcell X.below).1 _ _ hb').trans hc3
      refine wp_region_text (fun w' => Box (w.heap.size) [.int .i64 wt, .slice (some ⟨b', o', none⟩) s.length c] w w' ∧ Box ((w.heap.size + 1)) [.int .i64 0, .slice none 0 0] w w' ∧ Box (gO) [.int .i64 wk, .slice A1 L1.length q1] w w' ∧ Two w' w.heap.size [w.heap.size, w.heap.size + 1, gO] ⟨A1, q1, L1⟩ ⟨A2, q2, L2⟩) (by kernel_rfl) (by kernel_rfl) ⟨X.drew, R.drew, O.drew, two_keep T (Below.refl _ _).drew⟩ ?_
      clear c0_c
      clear c1_c
      clear c2_c
      clear hc3_c
      iterate 13 (
        apply SeqH.one
        · intro uw K hS hK
          obtain ⟨qX, qR, qO, qT⟩ := hS
          have qX_0 := qX.cells 0 _ rfl
          have qX_1 := qX.cells 1 _ rfl
          have qO_0 := qO.cells 0 _ rfl
          have qO_1 := qO.cells 1 _ rfl
          have qc0_c := ((bcell qX.below).1 _ _ hb).trans c0
          have qc1_c := ((bcell qX.below).1 _ _ hb).trans c1
          have qc2_c := ((bcell qX.below).1 _ _ hb).trans c2
          have qhc3_c := ((bcell qX.below).1 _ _ hb').trans hc3
          first
            | (go_simp; exact hK.out _ ⟨qX, qR, qO, qT⟩)
            | (go_simp; go_at_call 82; (with_reducible refine (falls_spec x y wk hkd.1 hkd.2.1 hkd.2.2 hsl.1 hsl.2 hwk.1 hwk.2 _).mono ?_); rintro e uw1 ⟨rfl, hv⟩; rw [hfe]; go_wp2_with fail; exact hK.out _ ⟨qX.more hv, qR.more hv, qO.more hv, two_keep qT hv⟩)
        try simp only [Act.put, List.setIfInBounds_toArray, List.set_cons_zero, List.set_cons_succ])
      refine SeqH.end' rfl ?_
      intro v2 hS
      clear X R O T
      obtain ⟨X, R, O, T⟩ := hS
      have c0_c := ((bcell X.below).1 _ _ hb).trans c0
      have c1_c := ((bcell X.below).1 _ _ hb).trans c1
      have c2_c := ((bcell X.below).1 _ _ hb).trans c2
      have hc3_c := ((bcell X.below).1 _ _ hb').trans hc3
      clear hfe
      clear c0_c
      clear c1_c
      clear c2_c
      clear hc3_c
      have HOA := Lib.hid (World.ownsRow.alloc (show v2.ownsRow w.heap.size 3 1 (.slice A2 L2.length q2) L2.length (iv L2) from T.b) (.cells #[.int .i64 n] 3))
      have HNC := Lib.hid (cell_one v2 (.int .i64 n) 3)
      have hXB := X.below.size
      have HGG := Lib.hid (show ∀ g ∈ [w.heap.size, w.heap.size + 1, gO], g < v2.heap.size by
        intro g hg
        simp only [List.mem_cons, List.mem_nil_iff, or_false] at hg
        rcases hg with rfl | rfl | rfl
        · exact X.there
        · exact R.there
        · exact O.there)
      go_upto_region 7 with (at_builtin; go_must (refine wpList_append_lies _ rfl _ _ 25 rfl w.heap.size 3 i0 _ 1 8 Try.underlying25 hi0 hz0 HI1.out HI.out rfl (by decide) (.slice A2 L2.length q2) L2.length (iv L2) rfl HOA.out ⟨v2.heap.size, 0, none⟩ 1 1 [.int .i64 n] rfl rfl HNC.out (one_cell rfl) (by decide) (by unfold maxLen; omega) (by omega) (by rw [size_alloc']; omega) _ rfl ?_; intro g8 d8 w8 hown1 hgrow hat hlt8))
      have X8 := box_app2 X T (Nat.le_refl _) (by simp) hgrow
      have R8 := box_app2 R T (Nat.le_refl _) (by simp) hgrow
      have O8 := box_app2 O T (Nat.le_refl _) (by simp) hgrow
      have T8 := (Two.app1 T.swap HGG.out (row_snoc hown1) hgrow hat).swap
      clear T
      clear X R O hown1 hgrow hat hlt8 HOA HNC HGG hXB
      have X := X8; have R := R8; have O := O8; have T := T8
      clear X8 R8 O8 T8
      rw [show L2.length + 1 = (L2 ++ [n]).length by simp]
      obtain ⟨L4, hL4⟩ : ∃ L4, L2 ++ [n] = L4 := ⟨_, rfl⟩
      rw [hL4] at T HG2 ⊢
      clear hL4 hl2b
      obtain ⟨V, hVW⟩ : ∃ V : World, V = w8.drew := ⟨_, rfl⟩
      have hwV : Below w8.heap.size w8 V := by rw [hVW]; exact (Below.refl _ _).drew
      have HXV := Lib.hid (X.more hwV)
      have HRV := Lib.hid (R.more hwV)
      have HOV := Lib.hid (O.more hwV)
      have HTV := Lib.hid (T.keep hwV)
      have hO1 := HOV.out.cells 1 _ rfl
      have hX1 := HXV.out.cells 1 _ rfl
      have hs1 := ((bcell HXV.out.below).1 _ _ hb').trans hc3
      have hVs := HXV.out.below.size
      have HGS := Lib.hid (show ∀ g ∈ [w.heap.size, w.heap.size + 1, gO], g < V.heap.size by
        intro g hg
        simp only [List.mem_cons, List.mem_nil_iff, or_false] at hg
        rcases hg with rfl | rfl | rfl
        · exact HXV.out.there
        · exact HRV.out.there
        · exact HOV.out.there)
      have HOAV := Lib.hid (World.ownsRow.alloc (show V.ownsRow w.heap.size 3 1 (.slice A1 L1.length q1) L1.length (iv L1) from HTV.out.a) (.cells #[.int .i64 (y - n)] 3))
      have HNCV := Lib.hid (cell_one V (.int .i64 (y - n)) 3)
      have HVW := Lib.hid hVW
      clear hwV hVW X R O T
      refine wp_region_rel [37, 38, 39, 40, 41, 42, 43, 44, 45, 46, 47, 48] (fun L f w' => (¬ L 9 → V = w') ∧ (L 0 → f 37 = .pointer (some ⟨gO, 1, none⟩)) ∧ (L 1 → f 38 = .slice A1 L1.length q1) ∧ (L 2 → f 39 = .pointer (some ⟨w.heap.size, 1, none⟩)) ∧ (L 3 → f 40 = .slice (some ⟨b', o', none⟩) s.length c) ∧ (L 4 → f 41 = .int .i64 k) ∧ (L 5 → f 42 = .pointer (some ⟨b', o' + k, none⟩)) ∧ (L 6 → f 43 = .int .i64 y) ∧ (L 7 → f 44 = .int .i64 n) ∧ (L 8 → f 45 = .int .i64 (y - n)) ∧ (L 9 → ¬ L 10 → f 46 = .slice (some ⟨V.heap.size, 0, none⟩) 1 1 ∧ (V.alloc (.cells #[.int .i64 (y - n)] 3)) = w') ∧ (L 10 → ¬ L 12 → ∃ g9 d9, f 47 = .slice (some ⟨g9, 0, none⟩) (L1.length + 1) d9 ∧ RowOwn w' w.heap.size ⟨some ⟨g9, 0, none⟩, d9, L1 ++ [y - n]⟩ ∧ (V.alloc (.cells #[.int .i64 (y - n)] 3)).grownBy w' (Row.blk ⟨A1, q1, L1⟩) ∧ (Row.blk ⟨A1, q1, L1⟩ = some g9 ∨ g9 = (V.alloc (.cells #[.int .i64 (y - n)] 3)).heap.size)) ∧ (L 11 → f 48 = .pointer (some ⟨gO, 1, none⟩)) ∧ (L 12 → ∃ g9 d9, Box w.heap.size [.int .i64 wt, .slice (some ⟨b', o', none⟩) s.length c] w w' ∧ Box (w.heap.size + 1) [.int .i64 0, .slice none 0 0] w w' ∧ Box gO [.int .i64 wk, .slice (some ⟨g9, 0, none⟩) (L1.length + 1) d9] w w' ∧ Two w' w.heap.size [w.heap.size, w.heap.size + 1, gO] ⟨some ⟨g9, 0, none⟩, d9, L1 ++ [y - n]⟩ ⟨some ⟨g8, 0, none⟩, d8, L4⟩)) (by kernel_rfl) (by kernel_rfl) (by kernel_rfl) (fun f => ⟨fun _ => HVW.out, fun h => h.elim, fun h => h.elim, fun h => h.elim, fun h => h.elim, fun h => h.elim, fun h => h.elim, fun h => h.elim, fun h => h.elim, fun h => h.elim, fun h => h.elim, fun h => h.elim, fun h => h.elim, fun h => h.elim⟩) ?_ ?_
      · apply RelH.op2
        · intro L f u K hN hS hK
          simp only [puts, Act.put, List.setIfInBounds_toArray, List.set_cons_zero, List.set_cons_succ, upd, Nat.reduceEqDiff, ↓reduceIte, if_true, if_false] at hK ⊢
          have HS9 := Lib.hid hS
          obtain ⟨qN, c0, c1, c2, c3, c4, c5, c6, c7, c8, c9, c10, c11, c12⟩ := hS
          clear qN c0 c1 c2 c3 c4 c5 c6 c7 c8 c9 c10 c11 c12
          go_simp
          obtain ⟨qN, c0, c1, c2, c3, c4, c5, c6, c7, c8, c9, c10, c11, c12⟩ := HS9.out
          exact hK.out _ _ ⟨fun z9 => qN (fun z => z9 (.inl z)), fun _ => rfl, fun h => c1 (h.resolve_right (by decide)), fun h => c2 (h.resolve_right (by decide)), fun h => c3 (h.resolve_right (by decide)), fun h => c4 (h.resolve_right (by decide)), fun h => c5 (h.resolve_right (by decide)), fun h => c6 (h.resolve_right (by decide)), fun h => c7 (h.resolve_right (by decide)), fun h => c8 (h.resolve_right (by decide)), fun h t0 => c9 (h.resolve_right (by decide)) (fun z => t0 (.inl z)), fun h t0 => c10 (h.resolve_right (by decide)) (fun z => t0 (.inl z)), fun h => c11 (h.resolve_right (by decide)), fun h => c12 (h.resolve_right (by decide))⟩ _ rfl
        apply RelH.op2
        · intro L f u K hN hS hK
          simp only [puts, Act.put, List.setIfInBounds_toArray, List.set_cons_zero, List.set_cons_succ, upd, Nat.reduceEqDiff, ↓reduceIte, if_true, if_false] at hK ⊢
          have HS9 := Lib.hid hS
          obtain ⟨qN, c0, c1, c2, c3, c4, c5, c6, c7, c8, c9, c10, c11, c12⟩ := hS
          have e0 := c0 (hN.out.2 0 (by decide +kernel))
          have hcu : u.cell? ⟨gO, 1, none⟩ = some (.slice A1 L1.length q1) := by
            rcases Classical.em (L 9) with z9 | z9
            · rw [← (c9 z9 (hN.out.1 10 (by decide +kernel))).2]; exact cell_kept hO1 (al (Below.refl _ _))
            · rw [← qN z9]; exact hO1
          clear qN c0 c1 c2 c3 c4 c5 c6 c7 c8 c9 c10 c11 c12
          go_simp
          obtain ⟨qN, c0, c1, c2, c3, c4, c5, c6, c7, c8, c9, c10, c11, c12⟩ := HS9.out
          exact hK.out _ _ ⟨fun z9 => qN (fun z => z9 (.inl z)), fun h => c0 (h.resolve_right (by decide)), fun _ => rfl, fun h => c2 (h.resolve_right (by decide)), fun h => c3 (h.resolve_right (by decide)), fun h => c4 (h.resolve_right (by decide)), fun h => c5 (h.resolve_right (by decide)), fun h => c6 (h.resolve_right (by decide)), fun h => c7 (h.resolve_right (by decide)), fun h => c8 (h.resolve_right (by decide)), fun h t0 => c9 (h.resolve_right (by decide)) (fun z => t0 (.inl z)), fun h t0 => c10 (h.resolve_right (by decide)) (fun z => t0 (.inl z)), fun h => c11 (h.resolve_right (by decide)), fun h => c12 (h.resolve_right (by decide))⟩ _ (by simp only [e0])
        apply RelH.op2
        · intro L f u K hN hS hK
          simp only [puts, Act.put, List.setIfInBounds_toArray, List.set_cons_zero, List.set_cons_succ, upd, Nat.reduceEqDiff, ↓reduceIte, if_true, if_false] at hK ⊢
          have HS9 := Lib.hid hS
          obtain ⟨qN, c0, c1, c2, c3, c4, c5, c6, c7, c8, c9, c10, c11, c12⟩ := hS
          clear qN c0 c1 c2 c3 c4 c5 c6 c7 c8 c9 c10 c11 c12
          go_simp
          obtain ⟨qN, c0, c1, c2, c3, c4, c5, c6, c7, c8, c9, c10, c11, c12⟩ := HS9.out
          exact hK.out _ _ ⟨fun z9 => qN (fun z => z9 (.inl z)), fun h => c0 (h.resolve_right (by decide)), fun h => c1 (h.resolve_right (by decide)), fun _ => rfl, fun h => c3 (h.resolve_right (by decide)), fun h => c4 (h.resolve_right (by decide)), fun h => c5 (h.resolve_right (by decide)), fun h => c6 (h.resolve_right (by decide)), fun h => c7 (h.resolve_right (by decide)), fun h => c8 (h.resolve_right (by decide)), fun h t0 => c9 (h.resolve_right (by decide)) (fun z => t0 (.inl z)), fun h t0 => c10 (h.resolve_right (by decide)) (fun z => t0 (.inl z)), fun h => c11 (h.resolve_right (by decide)), fun h => c12 (h.resolve_right (by decide))⟩ _ rfl
        apply RelH.op2
        · intro L f u K hN hS hK
          simp only [puts, Act.put, List.setIfInBounds_toArray, List.set_cons_zero, List.set_cons_succ, upd, Nat.reduceEqDiff, ↓reduceIte, if_true, if_false] at hK ⊢
          have HS9 := Lib.hid hS
          obtain ⟨qN, c0, c1, c2, c3, c4, c5, c6, c7, c8, c9, c10, c11, c12⟩ := hS
          have e2 := c2 (hN.out.2 2 (by decide +kernel))
          have hcu : u.cell? ⟨w.heap.size, 1, none⟩ = some (.slice (some ⟨b', o', none⟩) s.length c) := by
            rcases Classical.em (L 9) with z9 | z9
            · rw [← (c9 z9 (hN.out.1 10 (by decide +kernel))).2]; exact cell_kept hX1 (al (Below.refl _ _))
            · rw [← qN z9]; exact hX1
          clear qN c0 c1 c2 c3 c4 c5 c6 c7 c8 c9 c10 c11 c12
          go_simp
          obtain ⟨qN, c0, c1, c2, c3, c4, c5, c6, c7, c8, c9, c10, c11, c12⟩ := HS9.out
          exact hK.out _ _ ⟨fun z9 => qN (fun z => z9 (.inl z)), fun h => c0 (h.resolve_right (by decide)), fun h => c1 (h.resolve_right (by decide)), fun h => c2 (h.resolve_right (by decide)), fun _ => rfl, fun h => c4 (h.resolve_right (by decide)), fun h => c5 (h.resolve_right (by decide)), fun h => c6 (h.resolve_right (by decide)), fun h => c7 (h.resolve_right (by decide)), fun h => c8 (h.resolve_right (by decide)), fun h t0 => c9 (h.resolve_right (by decide)) (fun z => t0 (.inl z)), fun h t0 => c10 (h.resolve_right (by decide)) (fun z => t0 (.inl z)), fun h => c11 (h.resolve_right (by decide)), fun h => c12 (h.resolve_right (by decide))⟩ _ (by simp only [e2])
        apply RelH.op2
        · intro L f u K hN hS hK
          simp only [puts, Act.put, List.setIfInBounds_toArray, List.set_cons_zero, List.set_cons_succ, upd, Nat.reduceEqDiff, ↓reduceIte, if_true, if_false] at hK ⊢
          have HS9 := Lib.hid hS
          obtain ⟨qN, c0, c1, c2, c3, c4, c5, c6, c7, c8, c9, c10, c11, c12⟩ := hS
          clear qN c0 c1 c2 c3 c4 c5 c6 c7 c8 c9 c10 c11 c12
          go_simp
          obtain ⟨qN, c0, c1, c2, c3, c4, c5, c6, c7, c8, c9, c10, c11, c12⟩ := HS9.out
          exact hK.out _ _ ⟨fun z9 => qN (fun z => z9 (.inl z)), fun h => c0 (h.resolve_right (by decide)), fun h => c1 (h.resolve_right (by decide)), fun h => c2 (h.resolve_right (by decide)), fun h => c3 (h.resolve_right (by decide)), fun _ => rfl, fun h => c5 (h.resolve_right (by decide)), fun h => c6 (h.resolve_right (by decide)), fun h => c7 (h.resolve_right (by decide)), fun h => c8 (h.resolve_right (by decide)), fun h t0 => c9 (h.resolve_right (by decide)) (fun z => t0 (.inl z)), fun h t0 => c10 (h.resolve_right (by decide)) (fun z => t0 (.inl z)), fun h => c11 (h.resolve_right (by decide)), fun h => c12 (h.resolve_right (by decide))⟩ _ rfl
        apply RelH.op2
        · intro L f u K hN hS hK
          simp only [puts, Act.put, List.setIfInBounds_toArray, List.set_cons_zero, List.set_cons_succ, upd, Nat.reduceEqDiff, ↓reduceIte, if_true, if_false] at hK ⊢
          have HS9 := Lib.hid hS
          obtain ⟨qN, c0, c1, c2, c3, c4, c5, c6, c7, c8, c9, c10, c11, c12⟩ := hS
          have e3 := c3 (hN.out.2 3 (by decide +kernel))
          have e4 := c4 (hN.out.2 4 (by decide +kernel))
          clear qN c0 c1 c2 c3 c4 c5 c6 c7 c8 c9 c10 c11 c12
          go_simp
          obtain ⟨qN, c0, c1, c2, c3, c4, c5, c6, c7, c8, c9, c10, c11, c12⟩ := HS9.out
          exact hK.out _ _ ⟨fun z9 => qN (fun z => z9 (.inl z)), fun h => c0 (h.resolve_right (by decide)), fun h => c1 (h.resolve_right (by decide)), fun h => c2 (h.resolve_right (by decide)), fun h => c3 (h.resolve_right (by decide)), fun h => c4 (h.resolve_right (by decide)), fun _ => rfl, fun h => c6 (h.resolve_right (by decide)), fun h => c7 (h.resolve_right (by decide)), fun h => c8 (h.resolve_right (by decide)), fun h t0 => c9 (h.resolve_right (by decide)) (fun z => t0 (.inl z)), fun h t0 => c10 (h.resolve_right (by decide)) (fun z => t0 (.inl z)), fun h => c11 (h.resolve_right (by decide)), fun h => c12 (h.resolve_right (by decide))⟩ _ (by simp only [e3, e4])
        apply RelH.op2
        · intro L f u K hN hS hK
          simp only [puts, Act.put, List.setIfInBounds_toArray, List.set_cons_zero, List.set_cons_succ, upd, Nat.reduceEqDiff, ↓reduceIte, if_true, if_false] at hK ⊢
          have HS9 := Lib.hid hS
          obtain ⟨qN, c0, c1, c2, c3, c4, c5, c6, c7, c8, c9, c10, c11, c12⟩ := hS
          have e5 := c5 (hN.out.2 5 (by decide +kernel))
          have hcu : u.cell? ⟨b', o' + k, none⟩ = some (.int .i64 y) := by
            rcases Classical.em (L 9) with z9 | z9
            · rw [← (c9 z9 (hN.out.1 10 (by decide +kernel))).2]; exact cell_kept hs1 (al (Below.refl _ _))
            · rw [← qN z9]; exact hs1
          clear qN c0 c1 c2 c3 c4 c5 c6 c7 c8 c9 c10 c11 c12
          go_simp
          obtain ⟨qN, c0, c1, c2, c3, c4, c5, c6, c7, c8, c9, c10, c11, c12⟩ := HS9.out
          exact hK.out _ _ ⟨fun z9 => qN (fun z => z9 (.inl z)), fun h => c0 (h.resolve_right (by decide)), fun h => c1 (h.resolve_right (by decide)), fun h => c2 (h.resolve_right (by decide)), fun h => c3 (h.resolve_right (by decide)), fun h => c4 (h.resolve_right (by decide)), fun h => c5 (h.resolve_right (by decide)), fun _ => rfl, fun h => c7 (h.resolve_right (by decide)), fun h => c8 (h.resolve_right (by decide)), fun h t0 => c9 (h.resolve_right (by decide)) (fun z => t0 (.inl z)), fun h t0 => c10 (h.resolve_right (by decide)) (fun z => t0 (.inl z)), fun h => c11 (h.resolve_right (by decide)), fun h => c12 (h.resolve_right (by decide))⟩ _ (by simp only [e5])
        apply RelH.op2
        · intro L f u K hN hS hK
          simp only [puts, Act.put, List.setIfInBounds_toArray, List.set_cons_zero, List.set_cons_succ, upd, Nat.reduceEqDiff, ↓reduceIte, if_true, if_false] at hK ⊢
          have HS9 := Lib.hid hS
          obtain ⟨qN, c0, c1, c2, c3, c4, c5, c6, c7, c8, c9, c10, c11, c12⟩ := hS
          clear qN c0 c1 c2 c3 c4 c5 c6 c7 c8 c9 c10 c11 c12
          go_simp
          obtain ⟨qN, c0, c1, c2, c3, c4, c5, c6, c7, c8, c9, c10, c11, c12⟩ := HS9.out
          exact hK.out _ _ ⟨fun z9 => qN (fun z => z9 (.inl z)), fun h => c0 (h.resolve_right (by decide)), fun h => c1 (h.resolve_right (by decide)), fun h => c2 (h.resolve_right (by decide)), fun h => c3 (h.resolve_right (by decide)), fun h => c4 (h.resolve_right (by decide)), fun h => c5 (h.resolve_right (by decide)), fun h => c6 (h.resolve_right (by decide)), fun _ => rfl, fun h => c8 (h.resolve_right (by decide)), fun h t0 => c9 (h.resolve_right (by decide)) (fun z => t0 (.inl z)), fun h t0 => c10 (h.resolve_right (by decide)) (fun z => t0 (.inl z)), fun h => c11 (h.resolve_right (by decide)), fun h => c12 (h.resolve_right (by decide))⟩ _ rfl
        apply RelH.op2
        · intro L f u K hN hS hK
          simp only [puts, Act.put, List.setIfInBounds_toArray, List.set_cons_zero, List.set_cons_succ, upd, Nat.reduceEqDiff, ↓reduceIte, if_true, if_false] at hK ⊢
          have HS9 := Lib.hid hS
          obtain ⟨qN, c0, c1, c2, c3, c4, c5, c6, c7, c8, c9, c10, c11, c12⟩ := hS
          have e6 := c6 (hN.out.2 6 (by decide +kernel))
          have e7 := c7 (hN.out.2 7 (by decide +kernel))
          clear qN c0 c1 c2 c3 c4 c5 c6 c7 c8 c9 c10 c11 c12
          go_simp
          obtain ⟨qN, c0, c1, c2, c3, c4, c5, c6, c7, c8, c9, c10, c11, c12⟩ := HS9.out
          exact hK.out _ _ ⟨fun z9 => qN (fun z => z9 (.inl z)), fun h => c0 (h.resolve_right (by decide)), fun h => c1 (h.resolve_right (by decide)), fun h => c2 (h.resolve_right (by decide)), fun h => c3 (h.resolve_right (by decide)), fun h => c4 (h.resolve_right (by decide)), fun h => c5 (h.resolve_right (by decide)), fun h => c6 (h.resolve_right (by decide)), fun h => c7 (h.resolve_right (by decide)), fun _ => rfl, fun h t0 => c9 (h.resolve_right (by decide)) (fun z => t0 (.inl z)), fun h t0 => c10 (h.resolve_right (by decide)) (fun z => t0 (.inl z)), fun h => c11 (h.resolve_right (by decide)), fun h => c12 (h.resolve_right (by decide))⟩ _ (by simp only [e6, e7])
        apply RelH.op2
        · intro L f u K hN hS hK
          simp only [puts, Act.put, List.setIfInBounds_toArray, List.set_cons_zero, List.set_cons_succ, upd, Nat.reduceEqDiff, ↓reduceIte, if_true, if_false] at hK ⊢
          have HS9 := Lib.hid hS
          obtain ⟨qN, c0, c1, c2, c3, c4, c5, c6, c7, c8, c9, c10, c11, c12⟩ := hS
          have e8 := c8 (hN.out.2 8 (by decide +kernel))
          have hu := qN (hN.out.1 9 (by decide +kernel))
          subst hu
          clear qN c0 c1 c2 c3 c4 c5 c6 c7 c8 c9 c10 c11 c12
          go_simp
          obtain ⟨qN, c0, c1, c2, c3, c4, c5, c6, c7, c8, c9, c10, c11, c12⟩ := HS9.out
          exact hK.out _ _ ⟨fun z9 => (z9 (by simp)).elim, fun h => c0 (h.resolve_right (by decide)), fun h => c1 (h.resolve_right (by decide)), fun h => c2 (h.resolve_right (by decide)), fun h => c3 (h.resolve_right (by decide)), fun h => c4 (h.resolve_right (by decide)), fun h => c5 (h.resolve_right (by decide)), fun h => c6 (h.resolve_right (by decide)), fun h => c7 (h.resolve_right (by decide)), fun h => c8 (h.resolve_right (by decide)), fun _ _ => ⟨rfl, rfl⟩, fun h t0 => absurd (h.resolve_right (by decide)) (hN.out.1 10 (by decide +kernel)), fun h => c11 (h.resolve_right (by decide)), fun h => absurd (h.resolve_right (by decide)) (hN.out.1 12 (by decide +kernel))⟩ _ (by simp only [e8])
        apply RelH.op2
        · intro L f u K hN hS hK
          simp only [puts, Act.put, List.setIfInBounds_toArray, List.set_cons_zero, List.set_cons_succ, upd, Nat.reduceEqDiff, ↓reduceIte, if_true, if_false] at hK ⊢
          have HS9 := Lib.hid hS
          obtain ⟨qN, c0, c1, c2, c3, c4, c5, c6, c7, c8, c9, c10, c11, c12⟩ := hS
          obtain ⟨x10, hu⟩ := c9 (hN.out.2 9 (by decide +kernel)) (hN.out.1 10 (by decide +kernel))
          have x5 := c1 (hN.out.2 1 (by decide +kernel))
          subst hu
          refine step_lies rfl (.tmp 38) (.tmp 46) 25 rfl w.heap.size 3 i0 _ 1 8 Try.underlying25 hi0 hz0 HI1.out HI.out rfl (by decide) (.slice A1 L1.length q1) L1.length (iv L1) x5 HOAV.out ⟨V.heap.size, 0, none⟩ 1 1 [.int .i64 (y - n)] x10 rfl HNCV.out (one_cell rfl) (by decide) (by unfold maxLen; omega) (by omega) (by rw [size_alloc']; omega) _ rfl ?_
          intro g9 d9 w9 hown1 hgrow hat hlt9
          exact hK.out _ _ ⟨fun z9 => (z9 (.inl (hN.out.2 9 (by decide +kernel)))).elim, fun h => c0 (h.resolve_right (by decide)), fun h => c1 (h.resolve_right (by decide)), fun h => c2 (h.resolve_right (by decide)), fun h => c3 (h.resolve_right (by decide)), fun h => c4 (h.resolve_right (by decide)), fun h => c5 (h.resolve_right (by decide)), fun h => c6 (h.resolve_right (by decide)), fun h => c7 (h.resolve_right (by decide)), fun h => c8 (h.resolve_right (by decide)), fun h t0 => (t0 (by simp)).elim, fun _ _ => ⟨g9, d9, rfl, row_snoc hown1, hgrow, hat⟩, fun h => c11 (h.resolve_right (by decide)), fun h => absurd (h.resolve_right (by decide)) (hN.out.1 12 (by decide +kernel))⟩ _ rfl
        apply RelH.op2
        · intro L f u K hN hS hK
          simp only [puts, Act.put, List.setIfInBounds_toArray, List.set_cons_zero, List.set_cons_succ, upd, Nat.reduceEqDiff, ↓reduceIte, if_true, if_false] at hK ⊢
          have HS9 := Lib.hid hS
          obtain ⟨qN, c0, c1, c2, c3, c4, c5, c6, c7, c8, c9, c10, c11, c12⟩ := hS
          clear qN c0 c1 c2 c3 c4 c5 c6 c7 c8 c9 c10 c11 c12
          go_simp
          obtain ⟨qN, c0, c1, c2, c3, c4, c5, c6, c7, c8, c9, c10, c11, c12⟩ := HS9.out
          exact hK.out _ _ ⟨fun z9 => qN (fun z => z9 (.inl z)), fun h => c0 (h.resolve_right (by decide)), fun h => c1 (h.resolve_right (by decide)), fun h => c2 (h.resolve_right (by decide)), fun h => c3 (h.resolve_right (by decide)), fun h => c4 (h.resolve_right (by decide)), fun h => c5 (h.resolve_right (by decide)), fun h => c6 (h.resolve_right (by decide)), fun h => c7 (h.resolve_right (by decide)), fun h => c8 (h.resolve_right (by decide)), fun h t0 => c9 (h.resolve_right (by decide)) (fun z => t0 (.inl z)), fun h t0 => c10 (h.resolve_right (by decide)) (fun z => t0 (.inl z)), fun _ => rfl, fun h => c12 (h.resolve_right (by decide))⟩ _ rfl
        apply RelH.op2
        · intro L f u K hN hS hK
          simp only [puts, Act.put, List.setIfInBounds_toArray, List.set_cons_zero, List.set_cons_succ, upd, Nat.reduceEqDiff, ↓reduceIte, if_true, if_false] at hK ⊢
          have HS9 := Lib.hid hS
          obtain ⟨qN, c0, c1, c2, c3, c4, c5, c6, c7, c8, c9, c10, c11, c12⟩ := hS
          have e11 := c11 (hN.out.2 11 (by decide +kernel))
          obtain ⟨g9, d9, e10, hr9, hg9, hat9⟩ := c10 (hN.out.2 10 (by decide +kernel)) (hN.out.1 12 (by decide +kernel))
          have X9 := box_app (u := u) HXV.out HTV.out (Nat.le_refl _) (by simp) hg9
          have R9 := box_app (u := u) HRV.out HTV.out (Nat.le_refl _) (by simp) hg9
          have O9 := box_app (u := u) HOV.out HTV.out (Nat.le_refl _) (by simp) hg9
          have T9 := Two.app1 HTV.out HGS.out hr9 hg9 hat9
          have hd1 := O9.free 1 (by simp)
          have hd2 := O9.cells 1 _ rfl
          have HFIN := Lib.hid (And.intro (X9.far O9.base hgX 1 (.slice (some ⟨g9, 0, none⟩) (L1.length + 1) d9)) (And.intro (R9.far O9.base hgR 1 (.slice (some ⟨g9, 0, none⟩) (L1.length + 1) d9)) (And.intro (O9.set 1 (.slice (some ⟨g9, 0, none⟩) (L1.length + 1) d9)) (T9.set (g := gO) (by simp) 1 (.slice (some ⟨g9, 0, none⟩) (L1.length + 1) d9)))))
          clear hr9 hg9 hat9 X9 R9 O9 T9
          clear qN c0 c1 c2 c3 c4 c5 c6 c7 c8 c9 c10 c11 c12
          go_simp
          obtain ⟨qN, c0, c1, c2, c3, c4, c5, c6, c7, c8, c9, c10, c11, c12⟩ := HS9.out
          exact hK.out undef _ ⟨fun z9 => (z9 (.inl (hN.out.2 9 (by decide +kernel)))).elim, fun h => c0 (h.resolve_right (by decide)), fun h => c1 (h.resolve_right (by decide)), fun h => c2 (h.resolve_right (by decide)), fun h => c3 (h.resolve_right (by decide)), fun h => c4 (h.resolve_right (by decide)), fun h => c5 (h.resolve_right (by decide)), fun h => c6 (h.resolve_right (by decide)), fun h => c7 (h.resolve_right (by decide)), fun h => c8 (h.resolve_right (by decide)), fun h t0 => (t0 (.inl (hN.out.2 10 (by decide +kernel)))).elim, fun h t0 => (t0 (by simp)).elim, fun h => c11 (h.resolve_right (by decide)), fun _ => ⟨g9, d9, HFIN.out⟩⟩ _ (by simp only [e11, e10])
        exact RelH.done
      intro L f V0 hL hS
      simp only [puts, Act.put, List.setIfInBounds_toArray, List.set_cons_zero, List.set_cons_succ]
      obtain ⟨qN, c0, c1, c2, c3, c4, c5, c6, c7, c8, c9, c10, c11, c12⟩ := hS
      obtain ⟨g9, d9, X, R, O, T⟩ := c12 (hL 12 (by decide))
      clear qN c0 c1 c2 c3 c4 c5 c6 c7 c8 c9 c10 c11 c12 hL HXV HRV HOV HTV HGS HOAV HNCV HVW hO1 hX1 hs1
      rw [show L1.length + 1 = (L1 ++ [y - n]).length by simp] at O
      obtain ⟨L3, hL3⟩ : ∃ L3, L1 ++ [y - n] = L3 := ⟨_, rfl⟩
      rw [hL3] at O T
      have HL3 := Lib.hid hL3
      clear hL3
      go_wp2_with fail
      refine wp_region_seq (fun L w' => Box (w.heap.size) [.int .i64 wt, .slice (some ⟨b', o', none⟩) s.length c] w w' ∧ Box ((w.heap.size + 1)) [.int .i64 0, .slice none 0 0] w w' ∧ BoxL (L 12) (gO) [.int .i64 wk, .slice (some ⟨g9, 0, none⟩) L3.length d9] [.int .i64 (wk - n * x.f1 / 10), .slice (some ⟨g9, 0, none⟩) L3.length d9] w w' ∧ Two w' w.heap.size [w.heap.size, w.heap.size + 1, gO] ⟨some ⟨g9, 0, none⟩, d9, L3⟩ ⟨some ⟨g8, 0, none⟩, d8, L4⟩) (by kernel_rfl) (by kernel_rfl) ⟨X.drew, R.drew, BoxL.start _ O.drew, two_keep T (Below.refl _ _).drew⟩ ?_
      iterate 13 (
        apply SeqH.op
        · intro L uw K hN hS hK
          obtain ⟨qX, qR, qO, qT⟩ := hS
          have qX_0 := qX.cells 0 _ rfl
          have qX_1 := qX.cells 1 _ rfl
          try (have hh0 := qO.2 (hN.out.1 12 (by decide +kernel)); have qO_0 := hh0.cells 0 _ rfl; have qO_1 := hh0.cells 1 _ rfl; clear hh0)
          clear hN
          have qc0_c := ((bcell qX.below).1 _ _ hb).trans c0
          have qc1_c := ((bcell qX.below).1 _ _ hb).trans c1
          have qc2_c := ((bcell qX.below).1 _ _ hb).trans c2
          have qhc3_c := ((bcell qX.below).1 _ _ hb').trans hc3
          first
            | (go_simp; exact hK.out _ ⟨qX, qR, (qO).skip (by decide), qT⟩)
            | (rcases qO.two with hh | hh <;> (have h0 := hh.cells 0 _ rfl; have k0 := hh.free 0 (by simp); have h1 := hh.cells 1 _ rfl; have k1 := hh.free 1 (by simp); go_simp; exact hK.out _ ⟨(qX.far hh.base (by omega) 0 (.int .i64 (wk - n * x.f1 / 10))), (qR.far hh.base (by omega) 0 (.int .i64 (wk - n * x.f1 / 10))), BoxL.put (hh.set 0 (.int .i64 (wk - n * x.f1 / 10))), (qT.set (by simp) 0 (.int .i64 (wk - n * x.f1 / 10)))⟩))
        try simp only [Act.put, List.setIfInBounds_toArray, List.set_cons_zero, List.set_cons_succ])
      refine SeqH.done rfl ?_
      intro L v3 hL hS
      clear X R O T
      obtain ⟨X, R, O, T⟩ := hS
      replace O := O.done (hL 12 (by decide))
      clear hL
      go_wp2
      go_roundw
      case rel => exact ⟨k + 1, _, d9, _, d8, L3, L4, _, HLT.out, by go_num, by trivial, Lib.hid ⟨by rw [HS2.out, HL3.out], HG2.out.symm, HW2.out.symm⟩, X, R, O, T⟩
      case measure => have := HLT.out; simp [intOf]; omega
    · have hkk : k = l.length := by omega
      subst hkk
      have X_0 := X.cells 0 _ rfl
      have X_1 := X.cells 1 _ rfl
      have X_f0 := X.free 0 (by simp)
      have X_f1 := X.free 1 (by simp)
      have X_t := X.there
      have R_0 := R.cells 0 _ rfl
      have R_1 := R.cells 1 _ rfl
      have R_f0 := R.free 0 (by simp)
      have R_f1 := R.free 1 (by simp)
      have R_t := R.there
      have O_0 := O.cells 0 _ rfl
      have O_1 := O.cells 1 _ rfl
      have O_f0 := O.free 0 (by simp)
      have O_f1 := O.free 1 (by simp)
      have O_t := O.there
      have TC := two_cells R (.int .i64 wk) (.slice A1 L1.length q1)
      go_wp2
      refine bodyPost_ret (v := .tuple #[.agg #[.int .i64 wk, .slice A1 L1.length q1], .slice A2 L2.length q2]) (by simp [results, Try.results56, go_sem, TC.1, TC.2]) rfl ⟨A1, q1, A2, q2, by rw [← HL.out.1, ← HL.out.2.1, ← HL.out.2.2], ?_, (O.below.setCell R.base _).setCell R.base _⟩
      rw [← HL.out.1, ← HL.out.2.1]
      exact ((T.set (g := w.heap.size + 1) (by simp) 0 _).set (g := w.heap.size + 1) (by simp) 1 _).sub (by simp)
end Go.Proofs.Ythilbpklmjpmcaa.FallT
