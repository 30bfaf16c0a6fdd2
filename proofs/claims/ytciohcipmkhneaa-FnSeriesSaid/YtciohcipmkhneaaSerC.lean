/- Series: copies of a series (append to an empty one; make and copy), and stores into such a row. -/
import Derived.Test.YtciohcipmkhneaaSerG
import Derived.Lib.SliceRun
import Derived.Laws.CopyOwn
namespace Go.Proofs.Ytciohcipmkhneaa.SerC
open Go.RowKit Go.Proofs.Ytciohcipmkhneaa.Mem Go.Proofs.Ytciohcipmkhneaa.Base Go.Proofs.Ytciohcipmkhneaa.SBasin Go.Proofs.Ytciohcipmkhneaa.Regn Go.Proofs.Ytciohcipmkhneaa.Boxes Go.Proofs.Ytciohcipmkhneaa.Keep Go.Proofs.Ytciohcipmkhneaa.Ser Go.Proofs.Ytciohcipmkhneaa.SerG
set_option linter.unusedVariables false
set_option maxRecDepth 100000
theorem cell_add (w : World) (b o j : Nat) : w.cell? (Addr.add ⟨b, o, none⟩ j) = w.cell? ⟨b, o + j, none⟩ := by
  unfold Addr.add; split
  · rename_i h; subst h; rfl
  · rfl
theorem flat_one (l : List R) : ∀ u ∈ flat l, u.oneCell' = true := by
  intro u hu
  unfold flat at hu
  rw [List.mem_flatMap] at hu
  obtain ⟨x, _, hx⟩ := hu
  simp [R.cells] at hx
  rcases hx with rfl | rfl | rfl <;> rfl
theorem flat_nil {l : List R} (h : flat l = []) : l = [] := by
  have := flat_n l; rw [h] at this; exact List.eq_nil_of_length_eq_zero (by simp at this; omega)
def Own (w : World) (base g c : Nat) (l : List R) : Prop := w.ownsRow base 50 3 (.slice (some ⟨g, 0, none⟩) l.length c) l.length (flat l)
def ClPost (l : List R) (w : World) (e : Ending) (w' : World) : Prop :=
  ∃ g c, e = .returned (.slice (some ⟨g, 0, none⟩) l.length c) ∧ Own w' w.heap.size g c l ∧ Below w.heap.size w w'
theorem cl_mk {l : List R} {w w' : World} {g c : Nat} {v : Value} (h : v = .slice (some ⟨g, 0, none⟩) l.length c) (ho : Own w' w.heap.size g c l) (hB : Below w.heap.size w w') : ClPost l w (.returned v) w' := ⟨g, c, by rw [h], ho, hB⟩
theorem empty_own {w u : World} (hb : Below w.heap.size w u) : (u.alloc (.cells #[] 50)).ownsRow w.heap.size 50 3 (.slice (some ⟨u.heap.size, 0, none⟩) 0 0) 0 (flat []) := by
  have := World.ownsRow_lit u #[] 0 (e := 50) (size := 3) (base := w.heap.size) hb.size (by unfold maxLen; omega) rfl
  simpa [flat] using this
theorem Own.keep {w w' : World} {base g c : Nat} {l : List R} (h : Own w base g c l) (hb : Below w.heap.size w w') : Own w' base g c l := own_keep h hb
theorem Own.ge {w : World} {base g c : Nat} {l : List R} (h : Own w base g c l) : base ≤ g := own_ge h g rfl
theorem Own.lt {w : World} {base g c : Nat} {l : List R} (h : Own w base g c l) : g < w.heap.size := own_lt h
theorem Own.base {w : World} {base base' g c : Nat} {l : List R} (h : Own w base g c l) (hb : base' ≤ base) : Own w base' g c l := own_base h hb
theorem Own.rd {w : World} {base g c : Nat} {l : List R} (h : Own w base g c l) : Rd w w.heap.size (some ⟨g, 0, none⟩) (flat l) := Rd.of_own h
theorem Own.cells {w : World} {base g c k : Nat} {l : List R} {x : R} (O : Own w base g c l) (hk : k < l.length) (hx : l[k] = x) :
    w.cell? ⟨g, k * 3, none⟩ = some (.int .i64 x.f0) ∧ w.cell? ⟨g, k * 3 + 1, none⟩ = some (.int .i64 x.f1) ∧ w.cell? ⟨g, k * 3 + 2, none⟩ = some (.int .i64 x.f2) := by
  subst hx
  have e : l.length * 3 = (flat l).length := (flat_n l).symm
  refine ⟨?_, ?_, ?_⟩
  · rw [World.ownsRow.cellAt O _ (by omega)]; exact flat_0 l k hk
  · rw [World.ownsRow.cellAt O _ (by omega)]; exact flat_1 l k hk
  · rw [World.ownsRow.cellAt O _ (by omega)]; exact flat_2 l k hk
theorem Own.free {w : World} {base g c : Nat} {l : List R} (O : Own w base g c l) (i : Nat) : w.frozen? ⟨g, i, none⟩ = false := World.ownsRow.frozenAt O i
theorem set_self {l : List Value} {i : Nat} {v : Value} (h : l[i]? = some v) : l.set i v = l := by
  apply List.ext_getElem?
  intro j
  rw [List.getElem?_set]
  split
  · rename_i e; subst e
    split
    · rw [h]
    · rename_i h2
      rw [List.getElem?_eq_none (by omega)] at h; cases h
  · rfl
theorem flat_brine {l : List R} {k : Nat} {x : R} (a b : Int) (hk : k < l.length) (hx : l[k] = x) : ((flat l).set (k * 3 + 1) (.int .i64 a)).set (k * 3 + 2) (.int .i64 b) = flat (l.set k ⟨x.f0, a, b⟩) := by
  have h := flat_set l k ⟨x.f0, a, b⟩ hk
  rw [← h]
  subst hx
  show _ = (((flat l).set (k * 3) (.int .i64 l[k].f0)).set (k * 3 + 1) (.int .i64 a)).set (k * 3 + 2) (.int .i64 b)
  rw [set_self (flat_0 l k hk)]
theorem flat_water {l : List R} {k : Nat} {x : R} (a : Int) (hk : k < l.length) (hx : l[k] = x) : (flat l).set (k * 3 + 1) (.int .i64 a) = flat (l.set k ⟨x.f0, a, x.f2⟩) := by
  rw [← flat_brine a x.f2 hk hx]
  subst hx
  rw [set_self (v := .int .i64 l[k].f2) (by rw [List.getElem?_set_ne (by omega)]; exact flat_2 l k hk)]
/-- a Brine stored into basin k. -/
theorem Own.put {w : World} {base g c k : Nat} {l : List R} {x : R} (O : Own w base g c l) (hk : k < l.length) (hx : l[k] = x) (a b : Int) :
    Own ((w.setCell ⟨g, k * 3 + 1, none⟩ (.int .i64 a)).setCell ⟨g, k * 3 + 2, none⟩ (.int .i64 b)) base g c (l.set k ⟨x.f0, a, b⟩) := by
  have h := (World.ownsRow.stored (World.ownsRow.stored O (k * 3 + 1) (.int .i64 a)).1 (k * 3 + 2) (.int .i64 b)).1
  rw [flat_brine a b hk hx] at h
  unfold Own; rw [List.length_set]; exact h
theorem Own.putW {w : World} {base g c k : Nat} {l : List R} {x : R} (O : Own w base g c l) (hk : k < l.length) (hx : l[k] = x) (a : Int) :
    Own (w.setCell ⟨g, k * 3 + 1, none⟩ (.int .i64 a)) base g c (l.set k ⟨x.f0, a, x.f2⟩) := by
  have h := (World.ownsRow.stored O (k * 3 + 1) (.int .i64 a)).1
  rw [flat_water a hk hx] at h
  unfold Own; rw [List.length_set]; exact h
theorem below_put {w W : World} {g i : Nat} {v0 v1 : Value} (h : Below w.heap.size w W) (hg : w.heap.size ≤ g) : Below w.heap.size w ((W.setCell ⟨g, i, none⟩ v0).setCell ⟨g, i + 1, none⟩ v1) :=
  (h.setCell (p := ⟨g, _, none⟩) hg _).setCell (p := ⟨g, _, none⟩) hg _
set_option maxHeartbeats 400000 in
theorem own_spec (P : Option Addr) (cap : Nat) (l : List R) (w : World) (hr : Rd w w.heap.size P (flat l)) (h0 : 1 ≤ l.length) (hn : l.length ≤ 1048576) :
    Calls Try.prog 90 #[.slice P l.length cap] w (ClPost l w) := by
  obtain ⟨i0, hi, hz0, hz1, hz2⟩ := info_parts info_T
  have HI := Lib.hid hz2; clear hz2
  have HI1 := Lib.hid hz1; clear hz1
  obtain ⟨b, o, rfl, hb, hc⟩ := hr.at (k := 0) (by rw [flat_n]; omega)
  have HN := Lib.hid (show ∀ j u, (flat l)[j]? = some u → (w.alloc (.cells #[] 50)).cell? ((⟨b, o, none⟩ : Addr).add j) = some u from fun j u hu => by
    rw [cell_add, ((bcell (al (Below.refl w.heap.size w) (o := .cells #[] 50))).1 _ _ hb)]
    exact hc j u hu)
  clear hc hr
  have O := empty_own (Below.refl _ w)
  have HO := Lib.hid O; clear O
  go_enter Try.func90, Try.ntmps90
  go_wp2_with (at_builtin; go_must (refine wpList_append_own _ rfl _ _ 24 rfl w.heap.size 50 i0 _ 3 24 Try.underlying24 hi hz0 HI1.out HI.out rfl (by decide) _ 0 _ rfl HO.out ⟨b, o, none⟩ l.length cap (flat l) rfl (flat_n l) HN.out (flat_one l) (by unfold maxLen; omega) (by omega) (by rw [size_alloc']; omega) ?_; intro v' w9 hown1 hgrow _))
  have hB9 := bl_grown (al (Below.refl w.heap.size w) (o := .cells #[] 50)) hgrow (fun k hk => own_ge HO.out k hk)
  obtain ⟨A1, c1, rfl⟩ := own_form hown1
  have HO1 : w9.ownsRow w.heap.size 50 3 (.slice A1 l.length c1) l.length (flat l) := by simpa [flat] using hown1
  obtain ⟨g, c', rfl, _⟩ := own_some HO1 (by omega)
  clear hgrow hown1
  go_wp2
  go_ret
  exact cl_mk (by simp) HO1 hB9
theorem run_copy_rows {P : Program} (w : World) (dT sT ty elem : TypeId) (m g o dLen dCap : Nat) (a : Addr) (sLen sCap : Nat) (cur : Array Value) (t : TypeId) (cs : List Value)
    (hu : P.underlying dT = some (.slice elem)) (hs : (P.info? elem).map (·.size) = some m)
    (hg : w.heap[g]? = some (.cells cur t (0, 0))) (hn : cs.length = Nat.min sLen dLen * m)
    (hsrc : ∀ j v, cs[j]? = some v → w.cell? (a.add j) = some v) (hfit : o + cs.length ≤ cur.size) (h1 : ∀ v ∈ cs, v.oneCell' = true) :
    (Builtin.copy_ #[dT, sT] ty #[.slice (some ⟨g, o, none⟩) dLen dCap, .slice (some a) sLen sCap]).run P w =
      .ok (goInt (Nat.min sLen dLen)) (w.setRow g (cur.toList.take o ++ cs ++ cur.toList.drop (o + cs.length)).toArray) := by
  have hl := run_loadCells_list (P := P) w a cs hsrc
  have hst := run_storeCells_at P g o t cs 0 cur w hg (by simpa using hfit) h1
  cases hq : P.info? elem with
  | none => simp [hq] at hs
  | some i =>
    have hi : i.size = m := by simpa [hq] using hs
    have hn2 : Nat.min sLen dLen * m = cs.length := by omega
    simp [Builtin.copy_, run_underlying hu, Builtin.lenOf, Builtin.firstCells, sizeOf, typeInfo, hq, hi, hn2, hl, hst]
/-- copy over a whole row that the call made. -/
theorem copy_full {P : Program} {w : World} (dT sT ty elem : TypeId) (hu : P.underlying dT = some (.slice elem)) (m : Nat) (hsz : (P.info? elem).map (·.size) = some m)
    (base g n c : Nat) (ad : Addr) (sCap : Nat) (xs ys : List Value) (hown : w.ownsRow base elem m (.slice (some ⟨g, 0, none⟩) n c) n xs) (hy : ys.length = n * m) (hsrc : ∀ j v, ys[j]? = some v → w.cell? (ad.add j) = some v) (h1 : ∀ v ∈ ys, v.oneCell' = true) :
    ∃ w', (Builtin.copy_ #[dT, sT] ty #[.slice (some ⟨g, 0, none⟩) n c, .slice (some ad) n sCap]).run P w = .ok (goInt n) w' ∧ Hid (w'.ownsRow base elem m (.slice (some ⟨g, 0, none⟩) n c) n ys) ∧ Hid (w.grownBy w' (some g)) := by
  rcases hown.2 with ⟨hv, _⟩ | ⟨g', cap, cur, hv, hbg, hh, hnc, hcm, hcs, htk⟩
  · cases hv
  injection hv with hv1 hv2 hv3
  injection hv1 with hv1
  injection hv1 with hv1
  subst hv1; subst hv3
  have hmin : Nat.min n n = n := Nat.min_self n
  have hfit : 0 + ys.length ≤ cur.size := by rw [hy, hcs, Nat.zero_add]; exact Nat.mul_le_mul_right m hnc
  have hrun := run_copy_rows (P := P) w dT sT ty elem m g 0 n c ad n sCap cur elem ys hu hsz hh (by rw [hmin]; exact hy) hsrc hfit h1
  rw [hmin] at hrun
  refine ⟨_, hrun, ⟨hy, .inr ⟨g, c, _, rfl, hbg, setRow_heap w g _ _ elem _ hh, hnc, hcm, ?_, ?_⟩⟩, ⟨rfl, rfl, rfl, by simp [World.setRow], fun k hk hne => setRow_other w g k _ (fun e => hne (by rw [e]))⟩⟩
  · simp
    have : ys.length ≤ cur.size := by omega
    omega
  · simp [hy]
theorem size_T : (Try.prog.info? 50).map (·.size) = some 3 := by kernel_rfl
set_option maxHeartbeats 400000 in
theorem copy_impl (P : Option Addr) (cap : Nat) (l : List R) (w : World) (hr : Rd w w.heap.size P (flat l)) (h0 : 1 ≤ l.length) (hn : l.length ≤ 1048576) :
    Calls Try.prog 87 #[.slice P l.length cap] w (ClPost l w) := by
  obtain ⟨i0, hi, hz0, hz1, hz2⟩ := info_parts info_T
  have HI := Lib.hid hz2; clear hz2
  have HI1 := Lib.hid hz1; clear hz1
  have c1 : i0.bytes * l.length ≤ 281474976710656 := by rw [HI.out]; omega
  have c2 : l.length ≤ maxLen := by unfold maxLen; omega
  obtain ⟨b, o, rfl, hb, hc⟩ := hr.at (k := 0) (by rw [flat_n]; omega)
  have HC := Lib.hid hc
  clear hr hc
  go_enter Try.func87, Try.ntmps87
  go_wp2_with (at_make; go_must (refine wpList_make_full _ rfl _ _ 24 rfl w.heap.size 50 i0 _ 3 Try.underlying24 hi hz0 HI1.out _ _ _ _ l.length rfl rfl rfl rfl c1 c2 (Nat.le_refl _) ?_; intro w1 hown1 hg1))
  have hB1 : Below w.heap.size w w1 := (Below.refl _ w).grown hg1 (Nat.le_refl _) (by intro k hk; cases hk)
  have HN := Lib.hid (show ∀ j u, (flat l)[j]? = some u → w1.cell? ((⟨b, o, none⟩ : Addr).add j) = some u from fun j u hu => by
    rw [cell_add, (bcell hB1).1 _ _ hb]
    exact HC.out j u hu)
  clear hg1
  obtain ⟨w2, h4, hown2, hg2⟩ := copy_full (P := Try.prog) (w := w1) 24 24 3 50 Try.underlying24 3 size_T w.heap.size w.heap.size l.length l.length ⟨b, o, none⟩ cap _ (flat l) hown1 (flat_n l) HN.out (flat_one l)
  have H4 := Lib.hid h4; clear h4
  go_wp2_with fail
  rw [H4.out]
  go_simp
  have hB2 := bl_grown hB1 hg2.out (fun k hk => by injection hk with hk; omega)
  clear hown1 hB1
  go_wp2
  go_ret
  exact cl_mk rfl hown2.out hB2
end Go.Proofs.Ytciohcipmkhneaa.SerC
