/- Heaps: slices.Clone over heaps, copyHeaps, l7Own: a list anew, every row in memory of its own. -/
import Derived.Test.YtokgncbcknpfiaaDoorHeapP
namespace Go.Proofs.YtokgncbcknpfiaaDoor.HeapC
open Go.RowKit Go.Proofs.YtokgncbcknpfiaaDoor.Mem Go.Proofs.YtokgncbcknpfiaaDoor.Base Go.Proofs.YtokgncbcknpfiaaDoor.SInt Go.Proofs.YtokgncbcknpfiaaDoor.Boxes Go.Proofs.YtokgncbcknpfiaaDoor.Keep Go.Proofs.YtokgncbcknpfiaaDoor.Regn Go.Proofs.YtokgncbcknpfiaaDoor.Nest Go.Proofs.YtokgncbcknpfiaaDoor.HeapS Go.Proofs.YtokgncbcknpfiaaDoor.HeapW Go.Proofs.YtokgncbcknpfiaaDoor.HeapE Go.Proofs.YtokgncbcknpfiaaDoor.Heap Go.Proofs.YtokgncbcknpfiaaDoor.HeapG Go.Proofs.YtokgncbcknpfiaaDoor.HeapP
set_option linter.unusedVariables false
set_option maxRecDepth 100000
/-- the outer row alone anew. -/
def ClPost (l : List R) (w : World) (e : Ending) (w' : World) : Prop :=
  ∃ A c, e = .returned (.slice A l.length c) ∧ w'.ownsRow w.heap.size 41 4 (.slice A l.length c) l.length (flat l) ∧ Below w.heap.size w w'
theorem empty_own {w u : World} (hb : Below w.heap.size w u) : (u.alloc (.cells #[] 41)).ownsRow w.heap.size 41 4 (.slice (some ⟨u.heap.size, 0, none⟩) 0 0) 0 (flat []) := by
  have := World.ownsRow_lit u #[] 0 (e := 41) (size := 4) (base := w.heap.size) hb.size (by unfold maxLen; omega) rfl
  simpa [flat] using this
set_option maxHeartbeats 400000 in
theorem clone_any (P : Option Addr) (cap : Nat) (l : List R) (w : World) (hr : Rd w w.heap.size P (flat l)) (hn : l.length ≤ 1048576) :
    Calls Tryd.prog 57 #[.slice P l.length cap] w (ClPost l w) := by
  obtain ⟨i0, hi, hz0, hz1, hz2⟩ := info_parts info_T
  have HI := Lib.hid hz2; clear hz2
  have HI1 := Lib.hid hz1; clear hz1
  have qT : ∀ (w : World) (a : Option Addr) (n c n' c' : Nat), (binOp .eql 24 (.slice a n c) (.slice none n' c')).run Tryd.prog w = .ok (.bool a.isNone) w := fun w a n c n' c' => Lib.run_eql_slice_nil w _ _ a n c n' c' Tryd.underlying24
  cases P with
  | none =>
    have hl : l = [] := by
      rcases hr with h | ⟨b, o, hA, _⟩
      · exact flat_nil h
      · cases hA
    subst hl
    go_enter Tryd.func57, Tryd.ntmps57
    go_wp2
    go_ret
    exact ⟨none, 0, rfl, ⟨rfl, .inl ⟨rfl, rfl⟩⟩, Below.refl _ _⟩
  | some ad =>
    have hnews : ∀ j u, (flat l)[j]? = some u → (w.alloc (.cells #[] 41)).cell? (ad.add j) = some u := by
      intro j u hu
      rcases hr with h | ⟨b, o, hA, hb, hc⟩
      · rw [h] at hu; cases hu
      · injection hA with hA; subst hA
        rw [IClone.cell_add, ((bcell (al (Below.refl w.heap.size w) (o := .cells #[] 41))).1 _ _ hb)]
        exact hc j u hu
    have HN := Lib.hid hnews; clear hnews
    have O := empty_own (Below.refl _ w)
    have HO := Lib.hid O; clear O
    go_enter Tryd.func57, Tryd.ntmps57
    go_wp2_with (at_builtin; go_must (refine wpList_append_own _ rfl _ _ 24 rfl w.heap.size 41 i0 _ 4 48 Tryd.underlying24 hi hz0 HI1.out HI.out rfl (by decide) _ 0 _ rfl HO.out ad l.length cap (flat l) rfl (flat_n l) HN.out (flat_one l) (by unfold maxLen; omega) (by omega) (by rw [size_alloc']; omega) ?_; intro v' w9 hown1 hgrow _))
    have hB9 := bl_grown (al (Below.refl w.heap.size w) (o := .cells #[] 41)) hgrow (fun k hk => own_ge HO.out k hk)
    obtain ⟨A1, c1, rfl⟩ := own_form hown1
    have HO1 : w9.ownsRow w.heap.size 41 4 (.slice A1 l.length c1) l.length (flat l) := by simpa [flat] using hown1
    clear hgrow hown1
    go_wp2
    go_ret
    exact ⟨A1, c1, by simp, HO1, hB9⟩
/-- the same heaps anew, every row in memory of its own. -/
def CpPost (l : List R) (w : World) (e : Ending) (w' : World) : Prop :=
  ∃ (m : List R) (A : Option Addr) (c : Nat), pl m = pl l ∧ e = .returned (.slice A m.length c) ∧ Own w' w.heap.size w'.heap.size A c m ∧ Below w.heap.size w w'
theorem own_at {w : World} {lo g : Nat} {c : Nat} {l : List R} (h : w.ownsRow lo 41 4 (.slice (some ⟨g, 0, none⟩) l.length c) l.length (flat l)) {k : Nat} {x : R} (hk : k < l.length) (hx : l[k] = x) :
    w.cell? ⟨g, k * 4, none⟩ = some (.int .i64 x.f0) ∧ w.cell? ⟨g, k * 4 + 1, none⟩ = some (.int .i64 x.f1) ∧ w.cell? ⟨g, k * 4 + 2, none⟩ = some (.slice x.f2.A x.f2.ls.length x.f2.cap) ∧ w.cell? ⟨g, k * 4 + 3, none⟩ = some (.bool x.f3) := by
  subst hx
  refine ⟨?_, ?_, ?_, ?_⟩
  · rw [h.cellAt _ (by omega)]; exact flat_0 l k hk
  · rw [h.cellAt _ (by omega)]; exact flat_1 l k hk
  · rw [h.cellAt _ (by omega)]; exact flat_2 l k hk
  · rw [h.cellAt _ (by omega)]; exact flat_3 l k hk
set_option maxHeartbeats 1000000 in
theorem copy_impl (P : Option Addr) (cap : Nat) (l : List R) (w : World) (hr : Hs w w.heap.size P l) :
    Calls Tryd.prog 31 #[.slice P l.length cap] w (CpPost l w) := by
  have hn := hr.len
  have HR := Lib.hid hr; clear hr
  go_enter Tryd.func31, Tryd.ntmps31
  go_wp2_with fail
  refine (clone_any P cap l w HR.out.rd hn).mono ?_
  rintro e w1 ⟨A, c, rfl, O0, HB⟩
  go_wp2
  go_loopw [10] (fun i wr => ∃ (k : Nat) (m : List R), k ≤ l.length ∧ i = .int .i64 k ∧ Hid (m.length = l.length) ∧ Hid (∀ j (hj : j < l.length) (hm : j < m.length), (j < k → m[j].pure = l[j].pure) ∧ (k ≤ j → m[j] = l[j])) ∧
    Hid (wr.ownsRow w.heap.size 41 4 (.slice A m.length c) m.length (flat m)) ∧ Hid (Inner wr w.heap.size wr.heap.size (Value.slice A l.length c).ownBlock ((m.take k).map R.f2)) ∧ Below w.heap.size w wr) (fun i _ => l.length - (intOf i).toNat)
  case atStart => exact ⟨0, l, Nat.zero_le _, rfl, Lib.hid rfl, Lib.hid (fun j _ _ => ⟨fun h => by omega, fun _ => rfl⟩), Lib.hid O0, Lib.hid (by rw [List.take_zero]; exact Inner.empty _ _ _ _), HB⟩
  case round =>
    clear O0 HB
    obtain ⟨k, m, hk, rfl, HM, HP, HO, HIN, HB⟩ := hrel
    by_cases hlt : k < l.length
    · have hmk : k < m.length := by rw [HM.out]; exact hlt
      obtain ⟨x, hx⟩ : ∃ x, l[k] = x := ⟨_, rfl⟩
      have hmx : m[k] = x := ((HP.out k hlt hmk).2 (Nat.le_refl _)).trans hx
      have hrow := hs_row HR.out hlt hx
      have HRX := Lib.hid hrow.1; have HNX := Lib.hid hrow.2; clear hrow
      obtain ⟨g, rfl⟩ : ∃ g, A = some ⟨g, 0, none⟩ := by
        rcases HO.out.2 with ⟨hv, h0⟩ | ⟨g', cap, cur, hv, _⟩
        · omega
        · injection hv with h1; exact ⟨g', h1⟩
      obtain ⟨c0, c1, c2, c3⟩ := own_at HO.out hmk hmx
      have HX := Lib.hid hx; clear hx
      have HMX := Lib.hid hmx; clear hmx
      have HL := Lib.hid hlt
      have HMK := Lib.hid hmk
      have HG := Lib.hid (own_lt HO.out)
      go_wp2_with fail
      have hba : Below wr.heap.size wr (wr.alloc (.cells #[.int .i64 x.f0, .int .i64 x.f1, .slice x.f2.A x.f2.ls.length x.f2.cap, .bool x.f3] 41)) := al (Below.refl _ _)
      refine (clone_impl x.f2.A x.f2.cap x.f2.ls _ (rd_keep HRX.out (be HB hba)) HNX.out).mono ?_
      rintro e w2 ⟨r, hl, rfl, ho, hB2⟩
      have hb2 := be hba hB2
      have HB2 := Lib.hid hb2
      have HRO := Lib.hid (ho.base hba.size)
      have HRL := Lib.hid hl
      have HO2 := Lib.hid (own_keep HO.out hb2)
      obtain ⟨d0, d1, d2, d3⟩ := own_at HO2.out HMK.out HMX.out
      have g2 : w2.frozen? ⟨g, k * 4 + 2, none⟩ = false := HO2.out.frozenAt _
      clear c0 c1 c2 c3 d0 d1 d3 ho hba hB2 hl hb2
      go_wp2
      go_roundw
      case rel =>
        have hm2 := HMK.out
        have hsz := HB2.out.size
        have hst := (HO2.out.stored (k * 4 + 2) (.slice r.A r.ls.length r.cap)).1
        rw [flat_row r hm2] at hst
        have hx2 : m[k] = x := HMX.out
        refine ⟨k + 1, m.set k ⟨m[k].f0, m[k].f1, r, m[k].f3⟩, HL.out, by go_num, Lib.hid (by rw [List.length_set]; exact HM.out), Lib.hid (fun j hj hm => ?_), Lib.hid ?_, Lib.hid ?_, ?_⟩
        · by_cases he : j = k
          · subst he
            refine ⟨fun _ => ?_, fun h => by omega⟩
            rw [List.getElem_set_self, HX.out, hx2]
            unfold R.pure
            rw [HRL.out]
          · rw [List.getElem_set_ne (fun e => he e.symm)]
            have := HP.out j hj (by simpa using hm)
            exact ⟨fun h => this.1 (by omega), fun h => this.2 (by omega)⟩
        · rw [List.length_set, HRL.out.symm]; exact hst
        · have e : ((m.set k ⟨m[k].f0, m[k].f1, r, m[k].f3⟩).take (k + 1)).map R.f2 = (m.take k).map R.f2 ++ [r] := by
            rw [List.take_succ_eq_append_getElem (by rw [List.length_set]; exact hm2), List.getElem_set_self, List.map_append]
            congr 2
            rw [List.take_set_of_le (Nat.le_refl _)]
          rw [e, size_set']
          have h1 : Inner w2 w.heap.size wr.heap.size (Value.slice (some ⟨g, 0, none⟩) l.length c).ownBlock ((m.take k).map R.f2) := HIN.out.keep HB2.out
          have h2 := h1.snoc (top' := w2.heap.size) (HRO.out.base HB.size) hsz (fun j hj => ⟨(HRO.out.lt j hj).1, (HRO.out.lt j hj).2, fun e => by
            have e2 : g = j := by simpa [Value.ownBlock] using e
            have := HG.out
            have := (HRO.out.lt j hj).1
            omega⟩)
          exact h2.congr fun j _ _ h4 => Below.heap_setCell w2 ⟨g, k * 4 + 2, none⟩ _ j (fun e => h4 (by rw [e]; rfl))
        · exact (be HB HB2.out).setCell (own_ge HO.out g rfl) _
      case measure => have := HL.out; simp [intOf]; omega
    · have hkk : k = l.length := by omega
      have HE := Lib.hid (show pl m = pl l from pl_upto HM.out fun j hj hm => (HP.out j hj hm).1 (by omega))
      go_wp2
      go_ret
      refine ⟨m, A, c, HE.out, by rw [HM.out]; rfl, ⟨HO.out, fun j hj => (HO.out.lt j hj).2, ?_⟩, HB⟩
      have h1 := HIN.out
      rw [List.take_of_length_le (by rw [HM.out]; omega), ← HM.out] at h1
      exact h1
theorem new_cells (u : World) (x : R) (T : TypeId) : ∀ j v, x.cells[j]? = some v → (u.alloc (.cells #[.int .i64 x.f0, .int .i64 x.f1, .slice x.f2.A x.f2.ls.length x.f2.cap, .bool x.f3] T)).cell? (Addr.add ⟨u.heap.size, 0, none⟩ j) = some v := by
  intro j v hv
  have h1 := (Box.new (w := u) (Below.refl _ u) x.cells T (g := u.heap.size) rfl).cells j v hv
  have e : (Addr.add ⟨u.heap.size, 0, none⟩ j) = ⟨u.heap.size, j, none⟩ := by unfold Addr.add; split
                                                                              · rename_i h; subst h; rfl
                                                                              · simp
  rw [e]; exact h1
theorem cells_one (x : R) : ∀ u ∈ x.cells, u.oneCell' = true := by
  intro u hu
  simp [R.cells] at hu
  rcases hu with rfl | rfl | rfl | rfl <;> rfl
theorem pl_snoc {l m : List R} {k : Nat} {x y : R} (hp : pl m = (pl l).take k) (hk : k < l.length) (hx : l[k] = x) (hy : y.pure = x.pure) : pl (m ++ [y]) = (pl l).take (k + 1) := by
  rw [List.take_succ_eq_append_getElem (pl_lt hk), pl_x hk hx, ← hp, ← hy]
  simp [pl]
set_option maxHeartbeats 1000000 in
theorem ownL_spec (P : Option Addr) (cap : Nat) (l : List R) (w : World) (hr : Hs w w.heap.size P l) :
    Calls Tryd.prog 34 #[.slice P l.length cap] w (CpPost l w) := by
  obtain ⟨i0, hi, hz0, hz1, hz2⟩ := info_parts info_T
  have HI := Lib.hid hz2; clear hz2
  have HI1 := Lib.hid hz1; clear hz1
  have hn := hr.len
  have HR := Lib.hid hr; clear hr
  have O0 := Own.empty w (Nat.le_refl w.heap.size)
  rw [← size_alloc' w (.cells #[] 41)] at O0
  have HO0 := Lib.hid O0; clear O0
  go_enter Tryd.func34, Tryd.ntmps34
  go_wp2
  go_loopw [3, 4] (fun v i wr => ∃ (k : Nat) (m : List R) (A : Option Addr) (c : Nat), k ≤ l.length ∧ i = .int .i64 k ∧ v = .slice A m.length c ∧ Hid (m.length = k) ∧ Hid (pl m = (pl l).take k) ∧ Hid (Own wr w.heap.size wr.heap.size A c m) ∧ Below w.heap.size w wr) (fun _ i _ => l.length - (intOf i).toNat)
  case atStart => exact ⟨0, [], _, _, Nat.zero_le _, rfl, rfl, Lib.hid rfl, Lib.hid rfl, HO0, al (Below.refl _ _)⟩
  case round =>
    clear HO0
    obtain ⟨k, m, A, c, hk, rfl, rfl, HM, HP, HO, HB⟩ := hrel
    by_cases hlt : k < l.length
    · obtain ⟨x, hx⟩ : ∃ x, l[k] = x := ⟨_, rfl⟩
      obtain ⟨b, o, rfl, hb, h0, h1, h2, h3⟩ := hs_at HR.out HB hlt hx
      have hrow := hs_row HR.out hlt hx
      have HRX := Lib.hid hrow.1; have HNX := Lib.hid hrow.2; clear hrow
      have HX := Lib.hid hx; clear hx
      have HL := Lib.hid hlt
      have hba : Below wr.heap.size wr (wr.alloc (.cells #[.int .i64 x.f0, .int .i64 x.f1, .slice x.f2.A x.f2.ls.length x.f2.cap, .bool x.f3] 41)) := al (Below.refl _ _)
      have B0 := Box.new (Below.refl _ wr) [.int .i64 x.f0, .int .i64 x.f1, .slice x.f2.A x.f2.ls.length x.f2.cap, .bool x.f3] 41 (g := wr.heap.size) rfl
      go_wp2_with fail
      refine (own_spec x.f2.A x.f2.cap x.f2.ls _ (rd_keep HRX.out (be HB hba)) HNX.out).mono ?_
      rintro e w2 ⟨⟨A1, c1, ls⟩, hl, rfl, ho, hB2⟩
      have B2 := B0.more hB2
      have HB2 := Lib.hid (be hba hB2)
      have hs1 : wr.heap.size + 1 ≤ w2.heap.size := by have := hB2.size; rw [size_alloc'] at this; exact this
      have HRL := Lib.hid hl
      have HRO := Lib.hid ho
      have y0 := B2.cells 0 _ rfl; have y1 := B2.cells 1 _ rfl; have y2 := B2.cells 2 _ rfl; have y3 := B2.cells 3 _ rfl; have y4 := B2.free 2 (by simp)
      clear h0 h1 h2 h3 hba B0 hB2 hl ho
      go_upto_region 7 with fail
      have B3 := B2.set 2 (.slice A1 x.f2.ls.length c1)
      have hro3 := RowOwn.congr (w' := w2.setCell ⟨wr.heap.size, 2, none⟩ (.slice A1 x.f2.ls.length c1)) HRO.out (fun j hj => by
        have h1 := (HRO.out.lt j hj).1
        rw [size_alloc'] at h1
        exact Below.heap_setCell w2 ⟨wr.heap.size, 2, none⟩ _ j (by simp; omega))
      have hb3 : Below wr.heap.size wr (w2.setCell ⟨wr.heap.size, 2, none⟩ (.slice A1 x.f2.ls.length c1)) := HB2.out.setCell (p := ⟨wr.heap.size, 2, none⟩) (Nat.le_refl _) _
      generalize w2.setCell ⟨wr.heap.size, 2, none⟩ (.slice A1 x.f2.ls.length c1) = W3 at B3 hro3 hb3 ⊢
      simp only [List.set_cons_succ, List.set_cons_zero] at B3
      clear y0 y1 y2 y3 y4 B2 HRO
      have y0 := B3.cells 0 _ rfl; have y1 := B3.cells 1 _ rfl; have y2 := B3.cells 2 _ rfl; have y3 := B3.cells 3 _ rfl
      have HRO := Lib.hid (hro3.base (show wr.heap.size ≤ _ by rw [size_alloc']; omega))
      have HB3 := Lib.hid hb3
      have hls : x.f2.ls = ls := HRL.out.symm
      have HNC := Lib.hid (new_cells W3 ⟨x.f0, x.f1, ⟨A1, c1, x.f2.ls⟩, x.f3⟩ 41)
      have hb4 : Below wr.heap.size wr (W3.alloc (.cells #[.int .i64 x.f0, .int .i64 x.f1, .slice A1 x.f2.ls.length c1, .bool x.f3] 41)) := al hb3
      have HB4 := Lib.hid hb4
      have HOO := Lib.hid (HO.out.keep hb4).out
      have hsz : w.heap.size ≤ (W3.alloc (.cells #[.int .i64 x.f0, .int .i64 x.f1, .slice A1 x.f2.ls.length c1, .bool x.f3] 41)).heap.size := Nat.le_trans HB.size hb4.size
      have HSZ := Lib.hid hsz
      have hmk : m.length = k := HM.out
      have hm1 : m.length + 1 ≤ maxLen := by unfold maxLen; omega
      have hm2 : (m.length + 1) * 48 ≤ 140737488355328 := by omega
      have HLS := Lib.hid hls
      clear hb3 hro3 B3 hb4 hsz hls hmk
      go_wp2_with (at_builtin; go_must (refine wpList_append_lies _ rfl _ _ 24 rfl w.heap.size 41 i0 _ 4 48 Tryd.underlying24 hi hz0 HI1.out HI.out rfl (by decide) (.slice A m.length c) m.length (flat m) rfl HOO.out ⟨W3.heap.size, 0, none⟩ 1 1 (R.cells ⟨x.f0, x.f1, ⟨A1, c1, x.f2.ls⟩, x.f3⟩) rfl rfl HNC.out (cells_one _) (by decide) hm1 hm2 HSZ.out _ rfl ?_; intro g9 c9 w9 hown1 hgrow hat hlt))
      have HOWN := Lib.hid hown1; have HGROW := Lib.hid hgrow; have HAT := Lib.hid hat
      clear hown1 hgrow hat hlt y0 y1 y2 y3
      go_wp2
      go_roundw
      case rel =>
        have hL : (m ++ [(⟨x.f0, x.f1, ⟨A1, c1, x.f2.ls⟩, x.f3⟩ : R)]).length = m.length + 1 := by simp
        have hown2 : w9.ownsRow w.heap.size 41 4 (.slice (some ⟨g9, 0, none⟩) (m ++ [(⟨x.f0, x.f1, ⟨A1, c1, x.f2.ls⟩, x.f3⟩ : R)]).length c9) (m ++ [(⟨x.f0, x.f1, ⟨A1, c1, x.f2.ls⟩, x.f3⟩ : R)]).length (flat (m ++ [(⟨x.f0, x.f1, ⟨A1, c1, x.f2.ls⟩, x.f3⟩ : R)])) := by
          rw [hL, flat_snoc]; exact HOWN.out
        have hrow4 : RowOwn (W3.alloc (.cells #[.int .i64 x.f0, .int .i64 x.f1, .slice A1 x.f2.ls.length c1, .bool x.f3] 41)) wr.heap.size ⟨A1, c1, x.f2.ls⟩ := by
          have := HRO.out
          rw [← HLS.out] at this
          exact World.ownsRow.alloc this _
        have hA : ∀ j, (Value.slice (some ⟨g9, 0, none⟩) (m ++ [(⟨x.f0, x.f1, ⟨A1, c1, x.f2.ls⟩, x.f3⟩ : R)]).length c9).ownBlock = some j → (Value.slice A m.length c).ownBlock = some j ∨ (W3.alloc (.cells #[.int .i64 x.f0, .int .i64 x.f1, .slice A1 x.f2.ls.length c1, .bool x.f3] 41)).heap.size ≤ j := by
          intro j hj
          have e : g9 = j := by simpa [Value.ownBlock] using hj
          subst e
          rcases HAT.out with h1 | h1
          · exact .inl h1
          · exact .inr (Nat.le_of_eq h1.symm)
        have hsn := Own.snoc HO.out HB.size (Nat.le_refl _) HB4.out hrow4 hown2 HGROW.out hA
        refine ⟨k + 1, m ++ [⟨x.f0, x.f1, ⟨A1, c1, x.f2.ls⟩, x.f3⟩], some ⟨g9, 0, none⟩, c9, HL.out, by go_num, by rw [hL], Lib.hid (by rw [hL, HM.out]), Lib.hid (pl_snoc HP.out HL.out HX.out rfl), Lib.hid hsn, ?_⟩
        exact bl_grown (be HB HB4.out) HGROW.out (fun j hj => own_ge HO.out.out j hj)
      case measure => have := HL.out; simp [intOf]; omega
    · have HE := Lib.hid (show pl m = pl l by have := HP.out; rwa [List.take_of_length_le (by rw [pl_len]; omega)] at this)
      go_wp2
      go_ret
      exact ⟨m, A, c, HE.out, rfl, HO.out, HB⟩
end Go.Proofs.YtokgncbcknpfiaaDoor.HeapC
