/- Series: DepthOrder of the program. -/
import Derived.Test.YtciohcipmkhneaaSerD
import Derived.Test.YtciohcipmkhneaaSortD
namespace Go.Proofs.Ytciohcipmkhneaa.SerD2
open Go.RowKit Go.Proofs.Ytciohcipmkhneaa.Mem Go.Proofs.Ytciohcipmkhneaa.Base Go.Proofs.Ytciohcipmkhneaa.Within Go.Proofs.Ytciohcipmkhneaa.Brine Go.Proofs.Ytciohcipmkhneaa.Regn Go.Proofs.Ytciohcipmkhneaa.Boxes Go.Proofs.Ytciohcipmkhneaa.Keep Go.Proofs.Ytciohcipmkhneaa.Ser Go.Proofs.Ytciohcipmkhneaa.SerG Go.Proofs.Ytciohcipmkhneaa.SerC Go.Proofs.Ytciohcipmkhneaa.SerQ Go.Proofs.Ytciohcipmkhneaa.SerD
open Go.Proofs.Ytciohcipmkhneaa.SBasin hiding RPost rpost
open Go.Proofs.Ytciohcipmkhneaa.SortD (cmpI cmp_any cmpI_neg nv nv_len nv_get nv_set sortI sortI_len lower)
set_option linter.unusedVariables false
set_option linter.unusedSimpArgs false
set_option maxRecDepth 100000
set_option maxHeartbeats 800000 in
theorem cmp_impl (x y : R) (hx : okA x = true) (hy : okA y = true) (w : World) :
    Calls Try.prog 104 #[.agg #[.int .i64 x.f0, .int .i64 x.f1, .int .i64 x.f2], .agg #[.int .i64 y.f0, .int .i64 y.f1, .int .i64 y.f2]] w (RPost (.int .i64 (cmpI ((x.f1 + x.f2) * y.f0) ((y.f1 + y.f2) * x.f0))) w) := by
  have w1 := mul_bd hx hy
  have w2 := mul_bd hy hx
  obtain ⟨_, _, p0, p1, q0, q1⟩ := okA_true hx
  obtain ⟨_, _, s0, s1, t0, t1⟩ := okA_true hy
  go_enter Try.func104, Try.ntmps104
  go_wp2_with fail
  have X := (Box.new (Below.refl _ w) [.int .i64 x.f0, .int .i64 x.f1, .int .i64 x.f2] 50 (g := w.heap.size) rfl).alloc (.cells #[.int .i64 y.f0, .int .i64 y.f1, .int .i64 y.f2] 50)
  have Y := Box.new (al (Below.refl _ w) (o := (.cells #[.int .i64 x.f0, .int .i64 x.f1, .int .i64 x.f2] 50))) [.int .i64 y.f0, .int .i64 y.f1, .int .i64 y.f2] 50 (g := w.heap.size + 1) (by simp only [size_alloc'])
  generalize ((w.alloc (.cells #[.int .i64 x.f0, .int .i64 x.f1, .int .i64 x.f2] 50)).alloc (.cells #[.int .i64 y.f0, .int .i64 y.f1, .int .i64 y.f2] 50)) = W1 at X Y ⊢
  have X_0 := X.cells 0 _ rfl
  have X_1 := X.cells 1 _ rfl
  have X_2 := X.cells 2 _ rfl
  have X_f0 := X.free 0 (by simp)
  have X_f1 := X.free 1 (by simp)
  have X_f2 := X.free 2 (by simp)
  have X_t := X.there
  have Y_0 := Y.cells 0 _ rfl
  have Y_1 := Y.cells 1 _ rfl
  have Y_2 := Y.cells 2 _ rfl
  have Y_f0 := Y.free 0 (by simp)
  have Y_f1 := Y.free 1 (by simp)
  have Y_f2 := Y.free 2 (by simp)
  have Y_t := Y.there
  refine wp_region_text (fun w' => Box (w.heap.size) [.int .i64 x.f0, .int .i64 x.f1, .int .i64 x.f2] w w' ∧ Box (w.heap.size + 1) [.int .i64 y.f0, .int .i64 y.f1, .int .i64 y.f2] w w') (by kernel_rfl) (by kernel_rfl) ⟨X.drew, Y.drew⟩ ?_
  clear X_0 X_1 X_2 X_f0 X_f1 X_f2 X_t
  clear Y_0 Y_1 Y_2 Y_f0 Y_f1 Y_f2 Y_t
  iterate 14 (
    apply SeqH.one
    · intro uw K hS hK
      obtain ⟨qX, qY⟩ := hS
      have qX_0 := qX.cells 0 _ rfl
      have qX_1 := qX.cells 1 _ rfl
      have qX_2 := qX.cells 2 _ rfl
      have qY_0 := qY.cells 0 _ rfl
      have qY_1 := qY.cells 1 _ rfl
      have qY_2 := qY.cells 2 _ rfl
      first
        | (go_simp; exact hK.out _ ⟨qX, qY⟩)
        | (go_simp; go_at_call 122; (with_reducible refine (cmp_any _ _ _).mono ?_); rintro e _ ⟨rfl, rfl⟩; go_wp2_with fail; exact hK.out _ ⟨qX, qY⟩)
        | (go_simp; go_at_call 98; (with_reducible refine (IBrine.mass_impl x.f1 x.f2 p0 p1 q0 q1 _).mono ?_); rintro e uw1 ⟨rfl, hv⟩; go_wp2_with fail; exact hK.out _ ⟨qX.more hv, qY.more hv⟩)
        | (go_simp; go_at_call 98; (with_reducible refine (IBrine.mass_impl y.f1 y.f2 s0 s1 t0 t1 _).mono ?_); rintro e uw1 ⟨rfl, hv⟩; go_wp2_with fail; exact hK.out _ ⟨qX.more hv, qY.more hv⟩)
    try simp only [Act.put, List.setIfInBounds_toArray, List.set_cons_zero, List.set_cons_succ])
  refine SeqH.end' rfl ?_
  intro v2 hS
  clear X Y
  obtain ⟨X, Y⟩ := hS
  have X_0 := X.cells 0 _ rfl
  have X_1 := X.cells 1 _ rfl
  have X_2 := X.cells 2 _ rfl
  have X_f0 := X.free 0 (by simp)
  have X_f1 := X.free 1 (by simp)
  have X_f2 := X.free 2 (by simp)
  have X_t := X.there
  have Y_0 := Y.cells 0 _ rfl
  have Y_1 := Y.cells 1 _ rfl
  have Y_2 := Y.cells 2 _ rfl
  have Y_f0 := Y.free 0 (by simp)
  have Y_f1 := Y.free 1 (by simp)
  have Y_f2 := Y.free 2 (by simp)
  have Y_t := Y.there
  go_wp2
  go_ret
  exact rpost rfl X.below
/-- the captured list. -/
structure Env (T B : Nat) (b o cap : Nat) (l : List R) (w : World) : Prop where
  box : w.cell? ⟨B, 0, none⟩ = some (.slice (some ⟨b, o, none⟩) l.length cap)
  cells : ∀ (j : Nat) (v : Value), (flat l)[j]? = some v → w.cell? ⟨b, o + j, none⟩ = some v
theorem Env.below {T B b o cap : Nat} {l : List R} (hB : B < T) (hb : b < T) {w w' : World} (h : Env T B b o cap l w) (hv : Below T w w') : Env T B b o cap l w' :=
  ⟨((bcell hv).1 _ _ hB).trans h.box, fun j v hj => ((bcell hv).1 _ _ hb).trans (h.cells j v hj)⟩
def cvD (l : List R) (i j : Nat) : Int := cmpI (ms l j * ar l i) (ms l i * ar l j)
theorem cvD_lt (l : List R) (i j : Nat) : decide (cvD l i j < 0) = ltD l i j := by unfold cvD ltD; exact cmpI_neg _ _
set_option maxHeartbeats 800000 in
theorem clo_impl (T B b o cap : Nat) (l : List R) (hg : good l = true) (i j : Nat) (w : World) (hB : B < T) (hb : b < T) (hT : T ≤ w.heap.size) (he : Env T B b o cap l w) (hi : i < l.length) (hj : j < l.length) :
    Calls Try.prog 103 #[.int .i64 i, .int .i64 j, .pointer (some ⟨B, 0, none⟩)] w (SortD.RPost (.int .i64 (cvD l i j)) w) := by
  obtain ⟨x, hx⟩ : ∃ x, l[i] = x := ⟨_, rfl⟩
  obtain ⟨y, hy⟩ : ∃ y, l[j] = y := ⟨_, rfl⟩
  have hox := good_get hg hi hx
  have hoy := good_get hg hj hy
  have h8 := (good_all hg).2.1
  have h1 := nat_x hg hi hx
  have h2 := nat_x hg hj hy
  have HV := Lib.hid (show cvD l i j = cmpI ((y.f1 + y.f2) * x.f0) ((x.f1 + x.f2) * y.f0) by unfold cvD; rw [h1.1, h1.2, h2.1, h2.2])
  obtain ⟨x0, x1, x2⟩ := cells3 (Below.refl w.heap.size w) (show b < w.heap.size by omega) he.cells hi hx
  obtain ⟨y0, y1, y2⟩ := cells3 (Below.refl w.heap.size w) (show b < w.heap.size by omega) he.cells hj hy
  have bx := he.box
  have i1 : (i : Int) < l.length := by omega
  have i2 : (j : Int) < l.length := by omega
  have HC := Lib.hid (fun u0 => cmp_impl y x hoy hox u0)
  have HB := Below.refl w.heap.size w
  clear he h1 h2 hx hy hox hoy
  go_enter Try.func103, Try.ntmps103
  go_wp2_with fail
  refine wp_region_text (fun w' => w'.cell? ⟨B, 0, none⟩ = some (.slice (some ⟨b, o, none⟩) l.length cap) ∧ w'.cell? ⟨b, o + i * 3, none⟩ = some (.int .i64 x.f0) ∧ w'.cell? ⟨b, o + i * 3 + 1, none⟩ = some (.int .i64 x.f1) ∧ w'.cell? ⟨b, o + i * 3 + 2, none⟩ = some (.int .i64 x.f2) ∧ w'.cell? ⟨b, o + j * 3, none⟩ = some (.int .i64 y.f0) ∧ w'.cell? ⟨b, o + j * 3 + 1, none⟩ = some (.int .i64 y.f1) ∧ w'.cell? ⟨b, o + j * 3 + 2, none⟩ = some (.int .i64 y.f2) ∧ Below w.heap.size w w') (by kernel_rfl) (by kernel_rfl) ⟨cell_kept bx (Below.refl _ _).drew, cell_kept x0 (Below.refl _ _).drew, cell_kept x1 (Below.refl _ _).drew, cell_kept x2 (Below.refl _ _).drew, cell_kept y0 (Below.refl _ _).drew, cell_kept y1 (Below.refl _ _).drew, cell_kept y2 (Below.refl _ _).drew, be HB (Below.refl _ _).drew⟩ ?_
  iterate 10 (
    apply SeqH.one
    · intro uw K hS hK
      obtain ⟨qbx, qx0, qx1, qx2, qy0, qy1, qy2, qHB⟩ := hS
      first
        | (go_simp; exact hK.out _ ⟨qbx, qx0, qx1, qx2, qy0, qy1, qy2, qHB⟩)
        | (go_simp; go_at_call 104; (with_reducible refine (HC.out _).mono ?_); rintro e uw1 ⟨rfl, hv⟩; go_wp2_with fail; exact hK.out _ ⟨cell_kept qbx hv, cell_kept qx0 hv, cell_kept qx1 hv, cell_kept qx2 hv, cell_kept qy0 hv, cell_kept qy1 hv, cell_kept qy2 hv, be qHB hv⟩)
    try simp only [Act.put, List.setIfInBounds_toArray, List.set_cons_zero, List.set_cons_succ])
  refine SeqH.end' rfl ?_
  intro v1 hS
  clear bx x0 x1 x2 y0 y1 y2 HB
  obtain ⟨bx, x0, x1, x2, y0, y1, y2, HB⟩ := hS
  go_wp2
  go_ret
  exact ⟨by rw [HV.out] <;> rfl, HB⟩
theorem made_nv (n : Nat) : (madeCells (Value.int .i64 0).cells (n * 1)).toList = nv (List.replicate n 0) := by
  apply List.ext_getElem?
  intro i
  by_cases h : i < n
  · have h1 := made_get (Value.int .i64 0).cells 1 (n * 1) i 0 rfl (by omega) (by omega)
    simp only [Nat.mul_one, Nat.add_zero] at h1 ⊢
    rw [h1]
    simp [nv, h, Value.cells]
  · rw [List.getElem?_eq_none (by simp [size_madeCells]; omega), List.getElem?_eq_none (by rw [nv_len]; simp; omega)]
set_option maxHeartbeats 3200000 in
theorem dep_impl (P : Option Addr) (cap : Nat) (l : List R) (w : World) (hr : Rd w w.heap.size P (flat l)) (hcp : l.length ≤ cap) (hn : l.length ≤ 1048576) :
    Calls Try.prog 46 #[.slice P l.length cap] w (DepPost (depL l) (good l) w) := by
  obtain ⟨i0, hi, hz0, hz1, hz2⟩ := info_parts info_int
  have HI := Lib.hid hz2; clear hz2
  have HI1 := Lib.hid hz1; clear hz1
  have hmf : ∀ (fn : Fn) (first cap : Array Value) (w : World), (Instr.makeFunc fn first cap).run Try.prog w = .ok (.func fn first cap) w := fun _ _ _ _ => rfl
  have HR := Lib.hid hr; clear hr
  go_enter Try.func46, Try.ntmps46
  go_wp2_with fail
  have X := Box.new (Below.refl _ w) [.slice P l.length cap] 24 (g := w.heap.size) rfl
  have hs1 : (w.alloc (.cells #[.slice P l.length cap] 24)).heap.size = w.heap.size + 1 := size_alloc' _ _
  generalize w.alloc (.cells #[.slice P l.length cap] 24) = w1 at X hs1 ⊢
  refine (good_impl P cap l w1 (rd_keep HR.out X.below) hn).mono ?_
  rintro e w2 ⟨rfl, hv⟩
  replace X := X.more hv
  have hs2 : w.heap.size + 1 ≤ w2.heap.size := by have := hv.size; omega
  clear hv hs1
  cases hg : good l
  · have HO := Lib.hid (empty_int w2 w.heap.size X.below.size)
    have HG := Lib.hid hg
    clear hg
    go_wp2
    go_ret2
    exact dep_no HG.out rfl HO.out (al X.below)
  obtain ⟨g1, g8, _⟩ := good_all hg
  have HG := Lib.hid hg; clear hg
  obtain ⟨b, o, hP, hb, hcc⟩ := HR.out.at (k := 0) (by rw [flat_n]; omega)
  subst hP
  have HE := Lib.hid (show Env (w.heap.size + 1) w.heap.size b o cap l w2 from ⟨X.at0, fun j v hj => ((bcell X.below).1 _ _ hb).trans (hcc j v hj)⟩)
  clear hcc
  have c1 : i0.bytes * l.length ≤ 281474976710656 := by rw [HI.out]; omega
  have c2 : l.length ≤ maxLen := by unfold maxLen; omega
  have x0 := X.at0
  go_wp2_with (at_make; go_must (refine wpList_make_full _ rfl _ _ 55 rfl w2.heap.size 3 i0 _ 1 Try.underlying55 hi hz0 HI1.out _ _ _ _ l.length rfl rfl rfl rfl c1 c2 (Nat.le_refl _) ?_; intro w3 hown1 hg1))
  have hB1 : Below w2.heap.size w2 w3 := (Below.refl _ w2).grown hg1 (Nat.le_refl _) (by intro k hk; cases hk)
  replace X := X.more hB1
  have HT3 := Lib.hid (show Below (w.heap.size + 1) w2 w3 from lower hB1 hs2)
  have HO := Lib.hid (show w3.ownsRow (w.heap.size + 1) 3 1 (.slice (some ⟨w2.heap.size, 0, none⟩) l.length l.length) l.length (nv (half 0 (List.range l.length) 0)) by
    have h := own_base hown1 hs2
    rw [made_nv] at h
    rw [half_zero, List.length_range]; exact h)
  have HX := Lib.hid X.below
  have hsz3 := hB1.size
  clear hown1 hg1 c1 c2 x0 X hB1
  generalize w2.heap.size = g at *
  go_loopw [15] (fun i wr => ∃ k : Nat, k ≤ l.length ∧ i = .int .i64 k ∧ Hid (wr.ownsRow (w.heap.size + 1) 3 1 (.slice (some ⟨g, 0, none⟩) l.length l.length) l.length (nv (half 0 (List.range l.length) k))) ∧ Hid (Below (w.heap.size + 1) w2 wr) ∧ Below w.heap.size w wr) (fun i _ => l.length - (intOf i).toNat)
  case atStart => exact ⟨0, Nat.zero_le _, rfl, HO, HT3, HX.out⟩
  case round =>
    clear HO HT3 HX
    obtain ⟨k, hk, rfl, HO, HT, HB⟩ := hrel
    have hgw := own_ge HO.out g rfl
    by_cases hlt : k < l.length
    · have O := HO.out
      have hfl : (nv (half 0 (List.range l.length) k)).length = l.length := by rw [nv_len, half_len _ _ _ (by rw [List.length_range]; omega), List.length_range]
      obtain ⟨q0, m0⟩ : ∃ v, wr.cell? ⟨g, k, none⟩ = some v := ⟨_, (O.cellAt k (by omega)).trans (List.getElem?_eq_getElem (by rw [hfl]; omega))⟩
      have f0 : wr.frozen? ⟨g, k, none⟩ = false := O.frozenAt _
      have HO2 := Lib.hid (show (wr.setCell ⟨g, k, none⟩ (.int .i64 k)).ownsRow (w.heap.size + 1) 3 1 (.slice (some ⟨g, 0, none⟩) l.length l.length) l.length (nv (half 0 (List.range l.length) (k + 1))) by
        have h := (O.stored k (.int .i64 k)).1
        have h9 := half_set (0 : Nat) (List.range l.length) k (by rw [List.length_range]; exact hlt)
        rw [List.getElem_range] at h9
        rw [nv_set, h9] at h; exact h)
      have HT2 := Lib.hid (HT.out.setCell (p := ⟨g, k, none⟩) hgw (.int .i64 k))
      have HB2 := Lib.hid (HB.setCell (p := ⟨g, k, none⟩) (show w.heap.size ≤ g by omega) (.int .i64 k))
      clear hfl O
      go_wp2
      go_roundw
      case rel => exact ⟨k + 1, by omega, by go_num, HO2, HT2, HB2.out⟩
      case measure => simp [intOf]; omega
    · have hkk : k = l.length := by omega
      have HO2 := Lib.hid (show wr.ownsRow (w.heap.size + 1) 3 1 (.slice (some ⟨g, 0, none⟩) (List.range l.length).length l.length) (List.range l.length).length (nv (List.range l.length)) by
        have h := HO.out
        have h9 := half_full (0 : Nat) (List.range l.length)
        rw [List.length_range] at h9
        rw [hkk, h9] at h
        rw [List.length_range]; exact h)
      have hbT : b < w.heap.size + 1 := by omega
      have hwl := own_lt HO.out
      have HSO := Lib.hid (SortD.sort_any (w.heap.size + 1) w.heap.size l.length (Env (w.heap.size + 1) w.heap.size b o cap l) (fun u u1 h hv => h.below (Nat.lt_succ_self _) hbT hv) (cvD l) (ltD l) (cvD_lt l)
        (fun u x y h hs hx hy => clo_impl (w.heap.size + 1) w.heap.size b o cap l HG.out x y u (Nat.lt_succ_self _) hbT hs h hx hy) g l.length (List.range l.length) wr (HE.out.below (Nat.lt_succ_self _) hbT HT.out) (by omega) (fun i hi => List.mem_range.1 hi) (by rw [List.length_range]; omega) HO2.out)
      rw [List.length_range] at HSO
      clear HO HO2 hkk hwl
      go_wp2_with fail
      refine HSO.out.mono ?_
      rintro e w6 ⟨⟨v, rfl⟩, O6, hB6⟩
      have HO6 := Lib.hid (own_base O6 (Nat.le_succ _))
      have HB6 := Lib.hid (HB.trans (lower hB6 (Nat.le_succ _)))
      clear O6 hB6
      go_wp2
      go_ret2
      exact dep_yes HG.out rfl (by have h := HO6.out; rw [List.length_range] at h; exact h) HB6.out
end Go.Proofs.Ytciohcipmkhneaa.SerD2
