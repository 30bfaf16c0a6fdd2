/- Heaps: PutLayer and TakeTons, the program's. -/
import Derived.Test.YtokgncbcknpfiaaDoorHeapC
import Derived.Test.YtokgncbcknpfiaaDoorHeapT
import Derived.Test.YtokgncbcknpfiaaDoorHeapU
namespace Go.Proofs.YtokgncbcknpfiaaDoor.HeapV
open Go.RowKit Go.Proofs.YtokgncbcknpfiaaDoor.Mem Go.Proofs.YtokgncbcknpfiaaDoor.Base Go.Proofs.YtokgncbcknpfiaaDoor.Within Go.Proofs.YtokgncbcknpfiaaDoor.SInt Go.Proofs.YtokgncbcknpfiaaDoor.Boxes Go.Proofs.YtokgncbcknpfiaaDoor.Keep Go.Proofs.YtokgncbcknpfiaaDoor.Regn Go.Proofs.YtokgncbcknpfiaaDoor.Nest Go.Proofs.YtokgncbcknpfiaaDoor.HeapS Go.Proofs.YtokgncbcknpfiaaDoor.HeapW Go.Proofs.YtokgncbcknpfiaaDoor.HeapE Go.Proofs.YtokgncbcknpfiaaDoor.Heap Go.Proofs.YtokgncbcknpfiaaDoor.Heap2 Go.Proofs.YtokgncbcknpfiaaDoor.Heap3 Go.Proofs.YtokgncbcknpfiaaDoor.HeapG Go.Proofs.YtokgncbcknpfiaaDoor.HeapP Go.Proofs.YtokgncbcknpfiaaDoor.HeapT Go.Proofs.YtokgncbcknpfiaaDoor.HeapC Go.Proofs.YtokgncbcknpfiaaDoor.HeapU
set_option linter.unusedVariables false
set_option maxRecDepth 100000
/-- a list of heaps of the call's own, and a truth. -/
def HPost (F : List H) (q : Bool) (w : World) (e : Ending) (w' : World) : Prop :=
  ∃ (m : List R) (A : Option Addr) (c : Nat), pl m = F ∧ e = .returned (.tuple #[.slice A m.length c, .bool q]) ∧ Own w' w.heap.size w'.heap.size A c m ∧ Below w.heap.size w w'
theorem h_mk {F : List H} {q r : Bool} {w w' : World} {m : List R} {A : Option Addr} {c : Nat} {v : Value} (hF : F = pl m) (hq : q = r) (h : v = .tuple #[.slice A m.length c, .bool r])
    (ho : Own w' w.heap.size w'.heap.size A c m) (hB : Below w.heap.size w w') : HPost F q w (.returned v) w' := by
  subst hq; exact ⟨m, A, c, hF.symm, by rw [h], ho, hB⟩
theorem h_none {w w1 : World} (hB : Below w.heap.size w w1) : Own (w1.alloc (.cells #[] 41)) w.heap.size (w1.alloc (.cells #[] 41)).heap.size (some ⟨w1.heap.size, 0, none⟩) 0 [] := by
  have := Own.empty w1 hB.size
  rwa [← size_alloc' w1 (.cells #[] 41)] at this
theorem at_pure {l m : List R} {k : Nat} {x : R} (hp : pl m = pl l) (hk : k < l.length) (hx : l[k] = x) : ∃ (h : k < m.length), m[k].pure = x.pure := by
  have hl : m.length = l.length := by rw [← pl_len m, hp, pl_len]
  refine ⟨by omega, ?_⟩
  have h1 := pl_get m k (by omega)
  have h2 := pl_x hk hx
  rw [← h1, ← h2]; congr 1
theorem pl_set {l m : List R} {k : Nat} {y : R} {z : H} (hp : pl m = pl l) (hz : y.pure = z) : pl (m.set k y) = (pl l).set k z := by
  rw [← hp, ← hz]; simp [pl, List.map_set]
/-- an element more on the layers of heap k. -/
theorem appRow {w w9 : World} {lo g c k g9 c9 : Nat} {l : List R} {t : Int} {o : Obj} (h : Own w lo w.heap.size (some ⟨g, 0, none⟩) c l) (hk : k < l.length)
    (hown : RowOwn w9 lo ⟨some ⟨g9, 0, none⟩, c9, l[k].f2.ls ++ [t]⟩) (hgrow : (w.alloc o).grownBy w9 l[k].f2.blk) (hat : l[k].f2.blk = some g9 ∨ g9 = (w.alloc o).heap.size) :
    w9.ownsRow lo 41 4 (.slice (some ⟨g, 0, none⟩) l.length c) l.length (flat l) ∧
    Own (w9.setCell ⟨g, k * 4 + 2, none⟩ (.slice (some ⟨g9, 0, none⟩) (l[k].f2.ls ++ [t]).length c9)) lo w9.heap.size (some ⟨g, 0, none⟩) c (l.set k ⟨l[k].f0, l[k].f1, ⟨some ⟨g9, 0, none⟩, c9, l[k].f2.ls ++ [t]⟩, l[k].f3⟩) := by
  have hm : l[k].f2 ∈ l.map R.f2 := List.mem_map.2 ⟨_, List.getElem_mem hk, rfl⟩
  have hgs : g < w.heap.size := (h.out.lt g rfl).2
  have hs : w.heap.size ≤ w9.heap.size := by have := hgrow.size; rw [size_alloc'] at this; omega
  have he : ∀ j, j < w.heap.size → l[k].f2.blk ≠ some j → w9.heap[j]? = w.heap[j]? := fun j hj hne => by
    rw [hgrow.block j (by rw [size_alloc']; omega) (fun e => hne e.symm)]
    exact (al (Below.refl w.heap.size w) (o := o)).block j hj
  have hg9 : g9 ≠ g := by
    rcases hat with h1 | h1
    · exact fun e => (h.inn.far _ hm g (by rw [← e]; exact h1)).2 rfl
    · rw [size_alloc'] at h1; omega
  refine ⟨own_congr h.out (fun j hj => by
    have e : g = j := by simpa [Value.ownBlock] using hj
    subst e
    exact he g hgs (fun e => (h.inn.far _ hm g e).2 rfl)), ?_⟩
  refine h.putRow (w' := w9) (r := ⟨some ⟨g9, 0, none⟩, c9, l[k].f2.ls ++ [t]⟩) hk hown hs (fun j hj => ?_) he
  have e : g9 = j := by simpa [Row.blk, Row.val, Value.ownBlock] using hj
  subst e
  refine ⟨(hown.lt g9 rfl).2, hg9, ?_⟩
  rcases hat with h1 | h1
  · exact .inl h1
  · rw [size_alloc'] at h1; exact .inr (by omega)
set_option maxHeartbeats 1000000 in
theorem put_impl (P : Option Addr) (cap : Nat) (l : List R) (id g t : Int) (w : World) (hr : Hs w w.heap.size P l) :
    Calls Tryd.prog 6 #[.slice P l.length cap, .int .i64 id, .int .i64 g, .int .i64 t] w (HPost (putH (pl l) id g t) (putOk (pl l) id g t) w) := by
  obtain ⟨i0, hi, hz0, hz1, hz2⟩ := info_parts info_int
  have HI := Lib.hid hz2; clear hz2
  have HI1 := Lib.hid hz1; clear hz1
  have hn := hr.len
  have HR := Lib.hid hr; clear hr
  go_enter Tryd.func6, Tryd.ntmps6
  go_wp2_with fail
  refine (find_impl P cap l id w HR.out).mono ?_
  rintro e w1 ⟨rfl, HB⟩
  by_cases hf : 0 ≤ find (pl l) id
  · obtain ⟨k, hk, hlt0, hid, hgood⟩ := find_ok hf
    have hlt : k < l.length := by rw [pl_len] at hlt0; exact hlt0
    rw [findV_yes hk]
    obtain ⟨x, hx⟩ : ∃ x, l[k] = x := ⟨_, rfl⟩
    obtain ⟨b, o, rfl, hb, h0, h1, h2, h3⟩ := hs_at HR.out HB hlt hx
    have hrow := hs_row HR.out hlt hx
    have HRX := Lib.hid hrow.1; clear hrow
    obtain ⟨n1, _, _, _, hok⟩ := row_bd hgood hlt hx
    have HOK := Lib.hid hok
    have HN1 := Lib.hid n1
    have HPX := Lib.hid (pl_x hlt hx)
    have HX := Lib.hid hx
    have HK := Lib.hid hk
    have HLT := Lib.hid hlt
    clear hf hk hlt0 hid hgood hx hok n1
    go_wp2_with fail
    refine (can_impl x g t w1 (rd_keep HRX.out HB) HN1.out).mono ?_
    rintro e w2 ⟨rfl, hB2⟩
    replace HB := be HB hB2
    clear h0 h1 h2 h3 hB2
    cases hc : can x.pure g t
    · have HV := Lib.hid ((put_can HK.out (pl_lt HLT.out) HPX.out).trans hc)
      have O := h_none HB
      go_wp2
      go_ret2
      exact h_mk (m := []) (put_no HV.out) HV.out rfl O (al HB)
    have HV := Lib.hid ((put_can HK.out (pl_lt HLT.out) HPX.out).trans hc)
    have HF := Lib.hid (put_yes HK.out (pl_lt HLT.out) HPX.out hc)
    clear hc
    go_wp2_with fail
    refine (copy_impl _ cap l w2 (HR.out.keep HB)).mono ?_
    rintro e w3 ⟨m, A3, c3, hm, rfl, O3, hB3⟩
    obtain ⟨hkm, hmx⟩ := at_pure hm HLT.out HX.out
    have HBB := Lib.hid (be HB hB3)
    obtain ⟨q3, hA3⟩ := O3.ptr (by omega)
    subst hA3
    have hml : m.length = l.length := by rw [← pl_len m, hm, pl_len]
    have O3' := O3.base HB.size
    have hb3 := hB3.size
    obtain ⟨y, hy⟩ : ∃ y, m[k] = y := ⟨_, rfl⟩
    obtain ⟨c0, c1, c2, c4⟩ := O3.at hkm hy
    have hyl : y.f2.ls = x.f2.ls := by rw [hy] at hmx; exact congrArg H.ls hmx
    have hmn : y.f2.ls.length ≤ 1000 := by rw [hyl]; exact HN1.out
    have HRO := Lib.hid (show RowOwn w3 w.heap.size y.f2 by rw [← hy]; exact O3'.row hkm)
    have HOA := Lib.hid (World.ownsRow.alloc HRO.out (.cells #[.int .i64 t] 3))
    have HNC := Lib.hid (cell_one w3 (.int .i64 t) 3)
    have HM := Lib.hid hm
    have HMX := Lib.hid hmx
    have HKM := Lib.hid hkm
    have HY := Lib.hid hy
    have HO3 := Lib.hid O3'
    have HYL := Lib.hid hyl
    have HML := Lib.hid hml
    have hkl : k < m.length := hkm
    have hsz3 : w.heap.size ≤ w3.heap.size := HBB.out.size
    clear hm hmx hy O3 O3' hyl hml c0 c1 c4 hB3
    go_wp2_with (at_builtin; go_must (refine wpList_append_lies _ rfl _ _ 39 rfl w.heap.size 3 i0 _ 1 8 Tryd.underlying39 hi hz0 HI1.out HI.out rfl (by decide) (.slice y.f2.A y.f2.ls.length y.f2.cap) y.f2.ls.length (iv y.f2.ls) rfl HOA.out ⟨w3.heap.size, 0, none⟩ 1 1 [.int .i64 t] rfl rfl HNC.out (one_cell rfl) (by decide) (by unfold maxLen; omega) (by omega) (by rw [size_alloc']; omega) _ rfl ?_; intro g9 c9 w9 hown1 hgrow hat hlt; have HP := Lib.hid (appRow (w9 := w9) (g9 := g9) (c9 := c9) (t := t) HO3.out HKM.out (by rw [HY.out]; exact row_snoc hown1) (by rw [HY.out]; exact hgrow) (by rw [HY.out]; exact hat)); have hd := own_at HP.out.1 HKM.out HY.out; have y2 := hd.2.2.1; have y4 : w9.frozen? ⟨q3, k * 4 + 2, none⟩ = false := HP.out.1.frozenAt _; have HG9 := Lib.hid hgrow; clear hd hown1 hgrow hat hlt))
    go_ret2
    have hP2 := HP.out.2
    have hmx := HMX.out
    rw [HY.out] at hP2 hmx
    rw [show (y.f2.ls ++ [t]).length = y.f2.ls.length + 1 by simp] at hP2
    refine h_mk (m := m.set k ⟨y.f0, y.f1, ⟨some ⟨g9, 0, none⟩, c9, y.f2.ls ++ [t]⟩, y.f3⟩) ?_ HV.out (by rw [List.length_set] <;> rfl) ?_ ?_
    · rw [HF.out, pl_set HM.out rfl]
      congr 1
      have e1 : y.f0 = x.f0 := congrArg H.id hmx
      have e2 : y.f1 = x.f1 := congrArg H.gr hmx
      have e3 : y.f3 = x.f3 := congrArg H.cov hmx
      show withLs x.pure (x.f2.ls ++ [t]) = (⟨y.f0, y.f1, y.f2.ls ++ [t], y.f3⟩ : H)
      rw [e1, e2, e3, HYL.out]; rfl
    · rw [size_set']; exact hP2
    · exact (bl_grown (al HBB.out (o := .cells #[.int .i64 t] 3)) HG9.out (fun j hj => (HRO.out.lt j hj).1)).setCell (own_ge HO3.out.out q3 rfl) _
  · have HV := Lib.hid (put_none (l := pl l) (g := g) (t := t) (find_neg hf))
    rw [findV_no (find_neg hf)]
    have O := h_none HB
    clear hf
    go_wp2
    go_ret2
    exact h_mk (m := []) (put_no HV.out) HV.out rfl O (al HB)
theorem blk_same (A : Option Addr) (c : Nat) (l m : List Int) : Row.blk ⟨A, c, l⟩ = Row.blk ⟨A, c, m⟩ := by cases A <;> rfl
/-- heap k's layers written in their place. -/
theorem inRow {w w9 : World} {lo g c k : Nat} {l : List R} {r : Row} (h : Own w lo w.heap.size (some ⟨g, 0, none⟩) c l) (hk : k < l.length)
    (hown : RowOwn w9 lo r) (hA : r.blk = l[k].f2.blk) (hgrow : w.grownBy w9 l[k].f2.blk) :
    w9.ownsRow lo 41 4 (.slice (some ⟨g, 0, none⟩) l.length c) l.length (flat l) ∧
    Own (w9.setCell ⟨g, k * 4 + 2, none⟩ (.slice r.A r.ls.length r.cap)) lo w9.heap.size (some ⟨g, 0, none⟩) c (l.set k ⟨l[k].f0, l[k].f1, r, l[k].f3⟩) := by
  have hm : l[k].f2 ∈ l.map R.f2 := List.mem_map.2 ⟨_, List.getElem_mem hk, rfl⟩
  have hgs : g < w.heap.size := (h.out.lt g rfl).2
  have he : ∀ j, j < w.heap.size → l[k].f2.blk ≠ some j → w9.heap[j]? = w.heap[j]? := fun j hj hne => hgrow.block j hj (fun e => hne e.symm)
  refine ⟨own_congr h.out (fun j hj => by
    have e : g = j := by simpa [Value.ownBlock] using hj
    subst e
    exact he g hgs (fun e => (h.inn.far _ hm g e).2 rfl)), ?_⟩
  refine h.putRow (w' := w9) (r := r) hk hown hgrow.size (fun j hj => ?_) he
  have hj2 : l[k].f2.blk = some j := hA ▸ hj
  exact ⟨(hown.lt j hj).2, fun e => (h.inn.far _ hm j hj2).2 (by rw [e]; rfl), .inl hj2⟩
set_option maxHeartbeats 1000000 in
theorem takeT_impl (P : Option Addr) (cap : Nat) (l : List R) (id t : Int) (w : World) (hr : Hs w w.heap.size P l) :
    Calls Tryd.prog 10 #[.slice P l.length cap, .int .i64 id, .int .i64 t] w (HPost (takeH (pl l) id t) (takeOk (pl l) id t) w) := by
  have hn := hr.len
  have HR := Lib.hid hr; clear hr
  go_enter Tryd.func10, Tryd.ntmps10
  go_wp2_with fail
  refine (find_impl P cap l id w HR.out).mono ?_
  rintro e w1 ⟨rfl, HB⟩
  by_cases hf : 0 ≤ find (pl l) id
  · obtain ⟨k, hk, hlt0, hid, hgood⟩ := find_ok hf
    have hlt : k < l.length := by rw [pl_len] at hlt0; exact hlt0
    rw [findV_yes hk]
    obtain ⟨x, hx⟩ : ∃ x, l[k] = x := ⟨_, rfl⟩
    obtain ⟨b, o, rfl, hb, h0, h1, h2, h3⟩ := hs_at HR.out HB hlt hx
    have hrow := hs_row HR.out hlt hx
    have HRX := Lib.hid hrow.1; clear hrow
    obtain ⟨n1, n2, n3, n4, hok⟩ := row_bd hgood hlt hx
    have HOK := Lib.hid (okH_true hok).2.2.2.2
    have HN1 := Lib.hid n1
    have HN2 := Lib.hid n2
    have HPX := Lib.hid (pl_x hlt hx)
    have HX := Lib.hid hx
    have HK := Lib.hid hk
    have HLT := Lib.hid hlt
    clear hf hk hlt0 hid hgood hx hok n1 n2 n3 n4
    cases h6 : inB t 1 6000
    · have HV := Lib.hid (take_out (l := pl l) (id := id) h6)
      have O := h_none HB
      go_wp2_with (go_at_call 38; (with_reducible refine (within_any _ _ _ _).mono ?_); rintro e' w' ⟨rfl, rfl⟩; try rw [h6])
      go_ret2
      exact h_mk (m := []) (take_no HV.out) HV.out rfl O (al HB)
    have H6 := Lib.hid h6
    go_wp2_with (go_at_call 38; (with_reducible refine (within_any _ _ _ _).mono ?_); rintro e' w' ⟨rfl, rfl⟩; try rw [h6])
    clear h6
    refine (sum_impl x.f2.A x.f2.cap x.f2.ls w1 (rd_keep HRX.out HB) HN1.out HN2.out).mono ?_
    rintro e w2 ⟨rfl, hB2⟩
    replace HB := be HB hB2
    clear h0 h1 h2 h3 hB2
    cases hc : decide (x.f2.ls.sum < t)
    · have ht : t ≤ x.f2.ls.sum := by have := of_decide_eq_false hc; omega
      have HV := Lib.hid ((take_can HK.out (pl_lt HLT.out) HPX.out H6.out).trans (decide_eq_true ht))
      have HF := Lib.hid (take_yes HK.out (pl_lt HLT.out) HPX.out H6.out ht)
      have HT := Lib.hid (of_inB H6.out)
      clear ht
      go_wp2_with fail
      refine (copy_impl _ cap l w2 (HR.out.keep HB)).mono ?_
      rintro e w3 ⟨m, A3, c3, hm, rfl, O3, hB3⟩
      obtain ⟨hkm, hmx⟩ := at_pure hm HLT.out HX.out
      have HBB := Lib.hid (be HB hB3)
      obtain ⟨q3, hA3⟩ := O3.ptr (by omega)
      subst hA3
      have O3' := O3.base HB.size
      obtain ⟨y, hy⟩ : ∃ y, m[k] = y := ⟨_, rfl⟩
      obtain ⟨c0, c1, c2, c4⟩ := O3.at hkm hy
      have hyl : y.f2.ls = x.f2.ls := by rw [hy] at hmx; exact congrArg H.ls hmx
      have HRO := Lib.hid (show RowOwn w3 w.heap.size y.f2 by rw [← hy]; exact O3'.row hkm)
      have HM := Lib.hid hm
      have HMX := Lib.hid hmx
      have HKM := Lib.hid hkm
      have HY := Lib.hid hy
      have HO3 := Lib.hid O3'
      have HYL := Lib.hid hyl
      have hkl : k < m.length := hkm
      clear hm hmx hy O3 O3' hyl c0 c1 c4 hB3 hc
      go_wp2_with fail
      refine (HeapU.take_impl y.f2.A y.f2.cap y.f2.ls t w.heap.size w3 HRO.out (by rw [HYL.out]; exact okLs_mem HOK.out) (by rw [HYL.out]; exact okLs_len HOK.out) HT.out.2 (by have := HT.out.1; omega)).mono ?_
      rintro e w9 ⟨rfl, hro, hgr⟩
      have HP := Lib.hid (inRow HO3.out HKM.out (r := ⟨y.f2.A, y.f2.cap, takeL y.f2.ls t⟩) hro (by rw [HY.out]; exact blk_same _ _ _ _) (by rw [HY.out]; exact hgr))
      have hd := own_at HP.out.1 HKM.out HY.out
      have y2 := hd.2.2.1
      have y4 : w9.frozen? ⟨q3, k * 4 + 2, none⟩ = false := HP.out.1.frozenAt _
      have HG9 := Lib.hid hgr
      clear hd hro hgr c2
      go_wp2
      go_ret2
      have hP2 := HP.out.2
      have hmx := HMX.out
      rw [HY.out] at hP2 hmx
      refine h_mk (m := m.set k ⟨y.f0, y.f1, ⟨y.f2.A, y.f2.cap, takeL y.f2.ls t⟩, y.f3⟩) ?_ HV.out (by rw [List.length_set] <;> rfl) ?_ ?_
      · rw [HF.out, pl_set HM.out rfl]
        congr 1
        have e1 : y.f0 = x.f0 := congrArg H.id hmx
        have e2 : y.f1 = x.f1 := congrArg H.gr hmx
        have e3 : y.f3 = x.f3 := congrArg H.cov hmx
        show withLs x.pure (takeL x.f2.ls t) = (⟨y.f0, y.f1, takeL y.f2.ls t, y.f3⟩ : H)
        rw [e1, e2, e3, HYL.out]; rfl
      · rw [size_set']; exact hP2
      · exact (bl_grown HBB.out HG9.out (fun j hj => (HRO.out.lt j hj).1)).setCell (own_ge HO3.out.out q3 rfl) _
    · have ht : ¬ t ≤ x.f2.ls.sum := by have := of_decide_eq_true hc; omega
      have HV := Lib.hid ((take_can HK.out (pl_lt HLT.out) HPX.out H6.out).trans (decide_eq_false ht))
      have O := h_none HB
      clear ht
      go_wp2
      go_ret2
      exact h_mk (m := []) (take_no HV.out) HV.out rfl O (al HB)
  · have HV := Lib.hid (take_none (l := pl l) (t := t) (find_neg hf))
    rw [findV_no (find_neg hf)]
    have O := h_none HB
    clear hf
    go_wp2
    go_ret2
    exact h_mk (m := []) (take_no HV.out) HV.out rfl O (al HB)
end Go.Proofs.YtokgncbcknpfiaaDoor.HeapV
