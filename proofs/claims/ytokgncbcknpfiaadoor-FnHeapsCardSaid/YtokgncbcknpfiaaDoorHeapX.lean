/- Heaps: PutLayer and TakeTons, the model's. -/
import Derived.Test.YtokgncbcknpfiaaDoorHeapV
namespace Go.Proofs.YtokgncbcknpfiaaDoor.HeapX
open Go.RowKit Go.Proofs.YtokgncbcknpfiaaDoor.Mem Go.Proofs.YtokgncbcknpfiaaDoor.Base Go.Proofs.YtokgncbcknpfiaaDoor.Within Go.Proofs.YtokgncbcknpfiaaDoor.SInt Go.Proofs.YtokgncbcknpfiaaDoor.Boxes Go.Proofs.YtokgncbcknpfiaaDoor.Keep Go.Proofs.YtokgncbcknpfiaaDoor.Regn Go.Proofs.YtokgncbcknpfiaaDoor.Nest Go.Proofs.YtokgncbcknpfiaaDoor.HeapS Go.Proofs.YtokgncbcknpfiaaDoor.HeapW Go.Proofs.YtokgncbcknpfiaaDoor.HeapE Go.Proofs.YtokgncbcknpfiaaDoor.Heap Go.Proofs.YtokgncbcknpfiaaDoor.Heap2 Go.Proofs.YtokgncbcknpfiaaDoor.Heap3 Go.Proofs.YtokgncbcknpfiaaDoor.HeapG Go.Proofs.YtokgncbcknpfiaaDoor.HeapP Go.Proofs.YtokgncbcknpfiaaDoor.HeapT Go.Proofs.YtokgncbcknpfiaaDoor.HeapC Go.Proofs.YtokgncbcknpfiaaDoor.HeapU Go.Proofs.YtokgncbcknpfiaaDoor.HeapV
set_option linter.unusedVariables false
set_option maxRecDepth 100000
/-- heap k written anew with this row, all else of it as it was. -/
theorem putH_same {w w' : World} {lo top' g c k : Nat} {l : List R} {y : R} (r : Row) (h : Own w lo w.heap.size (some ⟨g, 0, none⟩) c l) (hk : k < l.length) (hy : l[k] = y) (hr : RowOwn w' lo r) (ht : w'.heap.size = top') (hs : w.heap.size ≤ top')
    (hn : ∀ j, r.blk = some j → j ≠ g ∧ (y.f2.blk = some j ∨ w.heap.size ≤ j)) (he : ∀ j, j < w.heap.size → y.f2.blk ≠ some j → w'.heap[j]? = w.heap[j]?) :
    (w'.ownsRow lo 41 4 (.slice (some ⟨g, 0, none⟩) l.length c) l.length (flat l)) ∧
    Own ((((w'.setCell ⟨g, k * 4, none⟩ (.int .i64 y.f0)).setCell ⟨g, k * 4 + 1, none⟩ (.int .i64 y.f1)).setCell ⟨g, k * 4 + 2, none⟩ (.slice r.A r.ls.length r.cap)).setCell ⟨g, k * 4 + 3, none⟩ (.bool y.f3)) lo top' (some ⟨g, 0, none⟩) c (l.set k ⟨y.f0, y.f1, r, y.f3⟩) := by
  subst hy
  have hm : l[k].f2 ∈ l.map R.f2 := List.mem_map.2 ⟨_, List.getElem_mem hk, rfl⟩
  refine ⟨own_congr h.out (fun j hj => by
    have e : g = j := by simpa [Value.ownBlock] using hj
    subst e
    exact he g (h.out.lt g rfl).2 (fun e => (h.inn.far _ hm g e).2 rfl)), ?_⟩
  exact putAll ⟨l[k].f0, l[k].f1, r, l[k].f3⟩ h hk hr hs (fun j hj => ⟨by have := (hr.lt j hj).2; omega, (hn j hj).1, (hn j hj).2⟩) he
set_option maxHeartbeats 1000000 in
theorem takeT_spec (P : Option Addr) (cap : Nat) (l : List R) (id t : Int) (w : World) (hr : Hs w w.heap.size P l) :
    Calls Tryd.prog 16 #[.slice P l.length cap, .int .i64 id, .int .i64 t] w (HPost (takeH (pl l) id t) (takeOk (pl l) id t) w) := by
  have hn := hr.len
  have HR := Lib.hid hr; clear hr
  go_enter Tryd.func16, Tryd.ntmps16
  go_wp2_with fail
  refine (find_spec P cap l id w HR.out).mono ?_
  rintro e w1 ⟨rfl, HB⟩
  by_cases hf : 0 ≤ find (pl l) id
  · obtain ⟨k, hk, hlt0, hid, hgood⟩ := find_ok hf
    have hlt : k < l.length := by rw [pl_len] at hlt0; exact hlt0
    have HK := Lib.hid hk
    rw [hk]
    clear hf hk hlt0 hid
    obtain ⟨x, hx⟩ : ∃ x, l[k] = x := ⟨_, rfl⟩
    obtain ⟨b, o, rfl, hb, h0, h1, h2, h3⟩ := hs_at HR.out HB hlt hx
    have hrow := hs_row HR.out hlt hx
    have HRX := Lib.hid hrow.1; clear hrow
    obtain ⟨n1, n2, n3, n4, hok⟩ := row_bd hgood hlt hx
    have HOK := Lib.hid (okH_true hok).2.2.2.2
    have HN1 := Lib.hid n1
    have HN2 := Lib.hid n2
    have HPX := Lib.hid (pl_x hlt hx)
    have HX := Lib.hid hx
    have HLT := Lib.hid hlt
    have hneg : decide ((k : Int) < 0) = false := decide_eq_false (by omega)
    clear hgood hx hok n1 n2 n3 n4
    cases h6 : inB t 1 6000
    · have HV := Lib.hid (take_out (l := pl l) (id := id) h6)
      have O := h_none HB
      go_wp2_with (go_at_call 43; (with_reducible refine (in_any _ _ _ _).mono ?_); rintro e' w' ⟨rfl, rfl⟩; try rw [h6])
      go_ret2
      exact h_mk (m := []) (take_no HV.out) HV.out rfl O (al HB)
    have H6 := Lib.hid h6
    go_wp2_with (go_at_call 43; (with_reducible refine (in_any _ _ _ _).mono ?_); rintro e' w' ⟨rfl, rfl⟩; try rw [h6])
    clear h6
    refine (tons_spec x w1 (rd_keep HRX.out HB) HN1.out HN2.out).mono ?_
    rintro e w2 ⟨rfl, hB2⟩
    replace HB := be HB hB2
    clear h0 h1 h2 h3 hB2
    cases hc : decide (x.f2.ls.sum < t)
    · have ht : t ≤ x.f2.ls.sum := by have := of_decide_eq_false hc; omega
      have HV := Lib.hid ((take_can HK.out (pl_lt HLT.out) HPX.out H6.out).trans (decide_eq_true ht))
      have HF := Lib.hid (take_yes HK.out (pl_lt HLT.out) HPX.out H6.out ht)
      have HT := Lib.hid (of_inB H6.out)
      clear ht
      go_wp2_with fail
      refine (ownL_spec _ cap l w2 (HR.out.keep HB)).mono ?_
      rintro e w3 ⟨m, A3, c3, hm, rfl, O3, hB3⟩
      obtain ⟨hkm, hmx⟩ := at_pure hm HLT.out HX.out
      have HBB := Lib.hid (be HB hB3)
      obtain ⟨q3, hA3⟩ := O3.ptr (by omega)
      subst hA3
      have O3' := O3.base HB.size
      obtain ⟨y, hy⟩ : ∃ y, m[k] = y := ⟨_, rfl⟩
      obtain ⟨c0, c1, c2, c4⟩ := O3.at hkm hy
      have hyl : y.f2.ls = x.f2.ls := by rw [hy] at hmx; exact congrArg H.ls hmx
      have hro : RowOwn w3 w.heap.size y.f2 := by rw [← hy]; exact O3'.row hkm
      have HRD := Lib.hid hro.rd
      have HM := Lib.hid hm
      have HMX := Lib.hid hmx
      have HY := Lib.hid hy
      have HO3 := Lib.hid O3'
      have HYL := Lib.hid hyl
      have HKM := Lib.hid hkm
      have hg3 : q3 < w3.heap.size := own_lt O3.out
      have hba : Below w3.heap.size w3 (w3.alloc (.cells #[.int .i64 y.f0, .int .i64 y.f1, .slice y.f2.A y.f2.ls.length y.f2.cap, .bool y.f3] 41)) := al (Below.refl _ _)
      have B0 := Box.new (Below.refl _ w3) [.int .i64 y.f0, .int .i64 y.f1, .slice y.f2.A y.f2.ls.length y.f2.cap, .bool y.f3] 41 (g := w3.heap.size) rfl
      clear hm hmx hy O3 O3' hyl hB3 hc hro
      go_wp2_with fail
      refine (HeapU.take_spec y.f2.A y.f2.cap y.f2.ls t _ (rd_keep HRD.out hba) (by rw [HYL.out]; exact okLs_mem HOK.out) (by rw [HYL.out]; exact okLs_len HOK.out) HT.out.2 (by have := HT.out.1; omega)).mono ?_
      rintro e w5 ⟨r, hrl, rfl, hro, hB5⟩
      have B5 := B0.more hB5
      have HB5 := Lib.hid (be hba hB5)
      have hs1 : w3.heap.size + 1 ≤ w5.heap.size := by have := hB5.size; rw [size_alloc'] at this; exact this
      have HRL := Lib.hid hrl
      have y0 := B5.cells 0 _ rfl; have y1 := B5.cells 1 _ rfl; have y2 := B5.cells 2 _ rfl; have y3 := B5.cells 3 _ rfl; have y4 := B5.free 2 (by simp)
      have HRO := Lib.hid hro
      clear c0 c1 c2 c4 hba B0 hB5 hrl hro
      go_upto_region 7 with fail
      have B6 := B5.set 2 (.slice r.A r.ls.length r.cap)
      have hro6 := RowOwn.congr (w' := w5.setCell ⟨w3.heap.size, 2, none⟩ (.slice r.A r.ls.length r.cap)) HRO.out (fun j hj => by
        have h1 := (HRO.out.lt j hj).1
        rw [size_alloc'] at h1
        exact Below.heap_setCell w5 ⟨w3.heap.size, 2, none⟩ _ j (by simp; omega))
      have hb6 : Below w3.heap.size w3 (w5.setCell ⟨w3.heap.size, 2, none⟩ (.slice r.A r.ls.length r.cap)) := HB5.out.setCell (p := ⟨w3.heap.size, 2, none⟩) (Nat.le_refl _) _
      generalize w5.setCell ⟨w3.heap.size, 2, none⟩ (.slice r.A r.ls.length r.cap) = W6 at B6 hro6 hb6 ⊢
      simp only [List.set_cons_succ, List.set_cons_zero] at B6
      clear y0 y1 y2 y3 y4 B5 HRO
      have HP := Lib.hid (putH_same r HO3.out HKM.out HY.out (hro6.base (show w.heap.size ≤ _ by rw [size_alloc']; have := HBB.out.size; omega)) rfl hb6.size (fun j hj => by
        have h1 := (hro6.lt j hj).1
        rw [size_alloc'] at h1
        exact ⟨by omega, .inr (by omega)⟩) (fun j hj _ => hb6.block j hj))
      have y0 := B6.cells 0 _ rfl; have y1 := B6.cells 1 _ rfl; have y2 := B6.cells 2 _ rfl; have y3 := B6.cells 3 _ rfl
      obtain ⟨d0, d1, d2, d3⟩ := own_at HP.out.1 HKM.out HY.out
      have f0 : W6.frozen? ⟨q3, k * 4, none⟩ = false := HP.out.1.frozenAt _
      have f1 : W6.frozen? ⟨q3, k * 4 + 1, none⟩ = false := HP.out.1.frozenAt _
      have f2 : W6.frozen? ⟨q3, k * 4 + 2, none⟩ = false := HP.out.1.frozenAt _
      have f3 : W6.frozen? ⟨q3, k * 4 + 3, none⟩ = false := HP.out.1.frozenAt _
      have HB6 := Lib.hid hb6
      have hkl : k < m.length := hkm
      clear hb6 hro6 B6
      go_wp2
      go_ret2
      have hmx := HMX.out
      rw [HY.out] at hmx
      have hq : w.heap.size ≤ q3 := own_ge HO3.out.out q3 rfl
      refine h_mk (m := m.set k ⟨y.f0, y.f1, r, y.f3⟩) ?_ HV.out (by rw [List.length_set] <;> rfl) ?_ ?_
      · rw [HF.out, pl_set HM.out rfl]
        congr 1
        have e1 : y.f0 = x.f0 := congrArg H.id hmx
        have e2 : y.f1 = x.f1 := congrArg H.gr hmx
        have e3 : y.f3 = x.f3 := congrArg H.cov hmx
        show withLs x.pure (takeL x.f2.ls t) = (⟨y.f0, y.f1, r.ls, y.f3⟩ : H)
        rw [e1, e2, e3, HRL.out, HYL.out]; rfl
      · simp only [size_set']; exact HP.out.2
      · exact ((((be HBB.out HB6.out).setCell hq _).setCell hq _).setCell hq _).setCell hq _
    · have ht : ¬ t ≤ x.f2.ls.sum := by have := of_decide_eq_true hc; omega
      have HV := Lib.hid ((take_can HK.out (pl_lt HLT.out) HPX.out H6.out).trans (decide_eq_false ht))
      have O := h_none HB
      clear ht
      go_wp2
      go_ret2
      exact h_mk (m := []) (take_no HV.out) HV.out rfl O (al HB)
  · have HV := Lib.hid (take_none (l := pl l) (t := t) (find_neg hf))
    rw [find_neg hf]
    have O := h_none HB
    clear hf
    go_wp2
    go_ret2
    exact h_mk (m := []) (take_no HV.out) HV.out rfl O (al HB)
set_option maxHeartbeats 1000000 in
theorem put_spec (P : Option Addr) (cap : Nat) (l : List R) (id g t : Int) (w : World) (hr : Hs w w.heap.size P l) :
    Calls Tryd.prog 7 #[.slice P l.length cap, .int .i64 id, .int .i64 g, .int .i64 t] w (HPost (putH (pl l) id g t) (putOk (pl l) id g t) w) := by
  obtain ⟨i0, hi, hz0, hz1, hz2⟩ := info_parts info_int
  have HI := Lib.hid hz2; clear hz2
  have HI1 := Lib.hid hz1; clear hz1
  have hn := hr.len
  have HR := Lib.hid hr; clear hr
  go_enter Tryd.func7, Tryd.ntmps7
  go_wp2_with fail
  refine (find_spec P cap l id w HR.out).mono ?_
  rintro e w1 ⟨rfl, HB⟩
  by_cases hf : 0 ≤ find (pl l) id
  · obtain ⟨k, hk, hlt0, hid, hgood⟩ := find_ok hf
    have hlt : k < l.length := by rw [pl_len] at hlt0; exact hlt0
    have HK := Lib.hid hk
    rw [hk]
    clear hf hk hlt0 hid
    obtain ⟨x, hx⟩ : ∃ x, l[k] = x := ⟨_, rfl⟩
    obtain ⟨b, o, rfl, hb, h0, h1, h2, h3⟩ := hs_at HR.out HB hlt hx
    have hrow := hs_row HR.out hlt hx
    have HRX := Lib.hid hrow.1; clear hrow
    obtain ⟨n1, n2, n3, n4, hok⟩ := row_bd hgood hlt hx
    have HOK := Lib.hid hok
    have HN1 := Lib.hid n1
    have HPX := Lib.hid (pl_x hlt hx)
    have HX := Lib.hid hx
    have HLT := Lib.hid hlt
    have hneg : decide ((k : Int) < 0) = false := decide_eq_false (by omega)
    clear hgood hx hok n1 n2 n3 n4
    go_wp2_with fail
    refine (can_spec x g t w1 (rd_keep HRX.out HB) HOK.out).mono ?_
    rintro e w2 ⟨rfl, hB2⟩
    replace HB := be HB hB2
    clear h0 h1 h2 h3 hB2
    cases hc : can x.pure g t
    · have HV := Lib.hid ((put_can HK.out (pl_lt HLT.out) HPX.out).trans hc)
      have O := h_none HB
      go_wp2
      go_ret2
      exact h_mk (m := []) (put_no HV.out) HV.out rfl O (al HB)
    have HV := Lib.hid ((put_can HK.out (pl_lt HLT.out) HPX.out).trans hc)
    have HF := Lib.hid (put_yes HK.out (pl_lt HLT.out) HPX.out hc)
    clear hc
    go_wp2_with fail
    refine (ownL_spec _ cap l w2 (HR.out.keep HB)).mono ?_
    rintro e w3 ⟨m, A3, c3, hm, rfl, O3, hB3⟩
    obtain ⟨hkm, hmx⟩ := at_pure hm HLT.out HX.out
    have hbb := be HB hB3
    have HBB := Lib.hid hbb
    obtain ⟨q3, hA3⟩ := O3.ptr (by omega)
    subst hA3
    have O3' := O3.base HB.size
    obtain ⟨y, hy⟩ : ∃ y, m[k] = y := ⟨_, rfl⟩
    obtain ⟨c0, c1, c2, c4⟩ := O3.at hkm hy
    have hyl : y.f2.ls = x.f2.ls := by rw [hy] at hmx; exact congrArg H.ls hmx
    have hmn : y.f2.ls.length ≤ 1000 := by rw [hyl]; exact HN1.out
    have HRO := Lib.hid (show RowOwn w3 w.heap.size y.f2 by rw [← hy]; exact O3'.row hkm)
    have HFAR := Lib.hid (show ∀ j, y.f2.blk = some j → j ≠ q3 from fun j hj e => by
      rw [← hy] at hj
      exact (O3.inn.far _ (List.mem_map.2 ⟨_, List.getElem_mem hkm, rfl⟩) j hj).2 (by rw [e]; rfl))
    have HM := Lib.hid hm
    have HMX := Lib.hid hmx
    have HY := Lib.hid hy
    have HO3 := Lib.hid O3'
    have HYL := Lib.hid hyl
    have HKM := Lib.hid hkm
    have hg3 : q3 < w3.heap.size := own_lt O3.out
    have HOA := Lib.hid (World.ownsRow.alloc (World.ownsRow.alloc HRO.out (.cells #[.int .i64 y.f0, .int .i64 y.f1, .slice y.f2.A y.f2.ls.length y.f2.cap, .bool y.f3] 41)) (.cells #[.int .i64 t] 3))
    have B0 := (Box.new hbb [.int .i64 y.f0, .int .i64 y.f1, .slice y.f2.A y.f2.ls.length y.f2.cap, .bool y.f3] 41 (g := w3.heap.size) rfl).alloc (.cells #[.int .i64 t] 3)
    have hnc := cell_one (w3.alloc (.cells #[.int .i64 y.f0, .int .i64 y.f1, .slice y.f2.A y.f2.ls.length y.f2.cap, .bool y.f3] 41)) (.int .i64 t) 3
    rw [size_alloc'] at hnc
    have HNC := Lib.hid hnc
    have hsz3 : w.heap.size ≤ w3.heap.size := HBB.out.size
    clear hm hmx hy O3 O3' hyl hB3 hnc hbb
    go_upto_region 7 with (at_builtin; go_must (refine wpList_append_lies _ rfl _ _ 39 rfl w.heap.size 3 i0 _ 1 8 Tryd.underlying39 hi hz0 HI1.out HI.out rfl (by decide) (.slice y.f2.A y.f2.ls.length y.f2.cap) y.f2.ls.length (iv y.f2.ls) rfl HOA.out ⟨w3.heap.size + 1, 0, none⟩ 1 1 [.int .i64 t] rfl rfl HNC.out (one_cell rfl) (by decide) (by unfold maxLen; omega) (by omega) (by rw [size_alloc', size_alloc']; omega) _ rfl ?_; intro g9 c9 w9 hown1 hgrow hat hlt9; have B9 := box_grown B0 hgrow (fun k hk => by have h5 := HRO.out.lt k hk; exact ⟨by omega, h5.1⟩); have y4 := B9.free 2 (by simp); have y2 := B9.cells 2 _ rfl; have HG9 := Lib.hid hgrow; have HAT := Lib.hid hat; have HOWN := Lib.hid (row_snoc hown1); clear hown1 hgrow hat hlt9))
    have B10 := B9.set 2 (.slice (some ⟨g9, 0, none⟩) (y.f2.ls.length + 1) c9)
    have hs9 : w3.heap.size + 2 ≤ w9.heap.size := by have := HG9.out.size; rw [size_alloc', size_alloc'] at this; omega
    have hg9 : (y.f2.blk = some g9 ∨ w3.heap.size + 2 ≤ g9) := by
      rcases HAT.out with h5 | h5
      · exact .inl h5
      · rw [size_alloc', size_alloc'] at h5; exact .inr (by omega)
    have hro10 : RowOwn (w9.setCell ⟨w3.heap.size, 2, none⟩ (.slice (some ⟨g9, 0, none⟩) (y.f2.ls.length + 1) c9)) w.heap.size ⟨some ⟨g9, 0, none⟩, c9, y.f2.ls ++ [t]⟩ := HOWN.out.congr (fun j hj => by
      have e : g9 = j := by simpa [Row.blk, Row.val, Value.ownBlock] using hj
      subst e
      refine Below.heap_setCell w9 ⟨w3.heap.size, 2, none⟩ _ g9 ?_
      rcases hg9 with h5 | h5
      · have := (HRO.out.lt g9 h5).2; simp; omega
      · simp; omega)
    have he10 : ∀ j, j < w3.heap.size → y.f2.blk ≠ some j → (w9.setCell ⟨w3.heap.size, 2, none⟩ (.slice (some ⟨g9, 0, none⟩) (y.f2.ls.length + 1) c9)).heap[j]? = w3.heap[j]? := fun j hj hne => by
      rw [Below.heap_setCell w9 ⟨w3.heap.size, 2, none⟩ _ j (by simp; omega), HG9.out.block j (by rw [size_alloc', size_alloc']; omega) (fun e => hne e.symm)]
      exact (al (al (Below.refl w3.heap.size w3))).block j hj
    have hs10 : (w9.setCell ⟨w3.heap.size, 2, none⟩ (.slice (some ⟨g9, 0, none⟩) (y.f2.ls.length + 1) c9)).heap.size = w9.heap.size := size_set' _ _ _
    generalize w9.setCell ⟨w3.heap.size, 2, none⟩ (.slice (some ⟨g9, 0, none⟩) (y.f2.ls.length + 1) c9) = W6 at B10 hro10 he10 hs10 ⊢
    simp only [List.set_cons_succ, List.set_cons_zero] at B10
    clear y2 y4 B9 B0 c0 c1 c2 c4
    have HP := Lib.hid (putH_same ⟨some ⟨g9, 0, none⟩, c9, y.f2.ls ++ [t]⟩ HO3.out HKM.out HY.out hro10 rfl (by omega) (fun j hj => by
      have e : g9 = j := by simpa [Row.blk, Row.val, Value.ownBlock] using hj
      subst e
      rcases hg9 with h5 | h5
      · exact ⟨HFAR.out g9 h5, .inl h5⟩
      · exact ⟨by omega, .inr (by omega)⟩) he10)
    have y0 := B10.cells 0 _ rfl; have y1 := B10.cells 1 _ rfl; have y2 := B10.cells 2 _ rfl; have y3 := B10.cells 3 _ rfl
    obtain ⟨d0, d1, d2, d3⟩ := own_at HP.out.1 HKM.out HY.out
    have f0 : W6.frozen? ⟨q3, k * 4, none⟩ = false := HP.out.1.frozenAt _
    have f1 : W6.frozen? ⟨q3, k * 4 + 1, none⟩ = false := HP.out.1.frozenAt _
    have f2 : W6.frozen? ⟨q3, k * 4 + 2, none⟩ = false := HP.out.1.frozenAt _
    have f3 : W6.frozen? ⟨q3, k * 4 + 3, none⟩ = false := HP.out.1.frozenAt _
    have HB6 := Lib.hid B10.below
    have hkl : k < m.length := hkm
    clear hro10 he10 hs10 hg9 B10
    go_wp2
    go_ret2
    have hmx := HMX.out
    rw [HY.out] at hmx
    have hq : w.heap.size ≤ q3 := own_ge HO3.out.out q3 rfl
    have hP2 := HP.out.2
    rw [show (y.f2.ls ++ [t]).length = y.f2.ls.length + 1 by simp] at hP2
    refine h_mk (m := m.set k ⟨y.f0, y.f1, ⟨some ⟨g9, 0, none⟩, c9, y.f2.ls ++ [t]⟩, y.f3⟩) ?_ HV.out (by rw [List.length_set] <;> rfl) ?_ ?_
    · rw [HF.out, pl_set HM.out rfl]
      congr 1
      have e1 : y.f0 = x.f0 := congrArg H.id hmx
      have e2 : y.f1 = x.f1 := congrArg H.gr hmx
      have e3 : y.f3 = x.f3 := congrArg H.cov hmx
      show withLs x.pure (x.f2.ls ++ [t]) = (⟨y.f0, y.f1, y.f2.ls ++ [t], y.f3⟩ : H)
      rw [e1, e2, e3, HYL.out]; rfl
    · simp only [size_set']; exact hP2
    · exact (((HB6.out.setCell hq _).setCell hq _).setCell hq _).setCell hq _
  · have HV := Lib.hid (put_none (l := pl l) (g := g) (t := t) (find_neg hf))
    rw [find_neg hf]
    have O := h_none HB
    clear hf
    go_wp2
    go_ret2
    exact h_mk (m := []) (put_no HV.out) HV.out rfl O (al HB)
end Go.Proofs.YtokgncbcknpfiaaDoor.HeapX
