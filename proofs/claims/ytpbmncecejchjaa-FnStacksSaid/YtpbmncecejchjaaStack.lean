/- StackLayers, as plain functions; the program's walk. -/
import Derived.Test.YtpbmncecejchjaaHeapV
import Derived.Test.YtpbmncecejchjaaHeapQ
import Derived.Test.YtpbmncecejchjaaTabS
namespace Go.Proofs.Ytpbmncecejchjaa.Stack
open Go.RowKit Go.Proofs.Ytpbmncecejchjaa.Mem Go.Proofs.Ytpbmncecejchjaa.Base Go.Proofs.Ytpbmncecejchjaa.Within Go.Proofs.Ytpbmncecejchjaa.SInt Go.Proofs.Ytpbmncecejchjaa.Boxes Go.Proofs.Ytpbmncecejchjaa.Keep Go.Proofs.Ytpbmncecejchjaa.Regn Go.Proofs.Ytpbmncecejchjaa.Nest Go.Proofs.Ytpbmncecejchjaa.HeapS Go.Proofs.Ytpbmncecejchjaa.HeapW Go.Proofs.Ytpbmncecejchjaa.HeapE Go.Proofs.Ytpbmncecejchjaa.Heap Go.Proofs.Ytpbmncecejchjaa.Heap2 Go.Proofs.Ytpbmncecejchjaa.HeapG Go.Proofs.Ytpbmncecejchjaa.HeapT Go.Proofs.Ytpbmncecejchjaa.HeapQ
set_option linter.unusedVariables false
set_option maxRecDepth 100000
def hOf (r : List Int) : H := ⟨0, 0, r, false⟩
def step (rows : List (List Int)) (t : Int) : List (List Int) := match pick 501 (rows.map hOf) 0 t rows.length with
  | none => rows ++ [[t]]
  | some i => rows.set i (rows.getD i [] ++ [t])
def stk (l : List Int) : Nat → List (List Int)
  | 0 => []
  | n + 1 => step (stk l n) (l.getD n 0)
def layOk (l : List Int) (k : Nat) : Bool := inB (l.getD k 0) 1 500
def stkOk (l : List Int) : Bool := decide (l.length ≤ 20) && upTo (layOk l) l.length
def stkF (l : List Int) : List (List Int) := if stkOk l = true then stk l l.length else []
theorem stk_no {l : List Int} (h : stkOk l = false) : stkF l = [] := by unfold stkF; rw [h]; rfl
theorem stk_yes {l : List Int} (h : stkOk l = true) : stkF l = stk l l.length := by unfold stkF; rw [if_pos h]
theorem stkOk_long {l : List Int} (h : 20 < l.length) : stkOk l = false := by unfold stkOk; rw [decide_eq_false (by omega)]; rfl
theorem stkOk_bad {l : List Int} {k : Nat} {t : Int} (hk : k < l.length) (hx : l[k] = t) (h : inB t 1 500 = false) : stkOk l = false := by
  unfold stkOk; rw [upTo_no hk (by unfold layOk; rw [int_at hk, hx]; exact h), Bool.and_false]
theorem stkOk_end {l : List Int} {k : Nat} (h20 : l.length ≤ 20) (h : Ok (layOk l) k) (hk : l.length ≤ k) : stkOk l = true := by
  unfold stkOk; rw [upTo_end h hk, decide_eq_true h20]; rfl
theorem lay_ok {l : List Int} {k : Nat} {t : Int} (hk : k < l.length) (hx : l[k] = t) (h : inB t 1 500 = true) : layOk l k = true := by unfold layOk; rw [int_at hk, hx, h]
/-- sound stacks: none empty, each sound as layers. -/
def Gd (rows : List (List Int)) : Prop := ∀ r ∈ rows, r ≠ [] ∧ okLs r = true
theorem step_gd {rows : List (List Int)} {t : Int} (hg : Gd rows) (ht : inB t 1 500 = true) : Gd (step rows t) ∧ (step rows t).length ≤ rows.length + 1 ∧ rows.length ≤ (step rows t).length := by
  unfold step
  cases hp : pick 501 (rows.map hOf) 0 t rows.length with
  | none =>
    refine ⟨fun r hr => ?_, by simp, by simp⟩
    rcases List.mem_append.1 hr with h1 | h1
    · exact hg r h1
    · rw [List.mem_singleton.1 h1]
      refine ⟨by simp, ?_⟩
      have := of_inB ht
      rw [show ([t] : List Int) = [] ++ [t] from rfl, okLs_append]
      exact ⟨rfl, this.1, this.2, fun h => by simp at h, by simp⟩
  | some i =>
    have hk := pick_ok (l := rows.map hOf) (by simp) hp
    refine ⟨fun r hr => ?_, by simp, by simp⟩
    rcases List.mem_or_eq_of_mem_set hr with h1 | h1
    · exact hg r h1
    · subst h1
      refine ⟨by simp, ?_⟩
      have h2 := hk.2
      have e : (rows.map hOf).getD i hz = hOf (rows.getD i []) := by
        rw [List.getD, List.getD, List.getElem?_map, List.getElem?_eq_getElem hk.1]; rfl
      rw [e] at h2
      unfold can at h2
      rw [Bool.and_eq_true] at h2
      exact h2.2
theorem stk_gd {l : List Int} : ∀ {n : Nat}, Ok (layOk l) n → n ≤ l.length → Gd (stk l n) ∧ (stk l n).length ≤ n := by
  intro n
  induction n with
  | zero => intro _ _; exact ⟨fun r h => (by cases h), Nat.le_refl _⟩
  | succ n ih =>
    intro h hn
    obtain ⟨h1, h2⟩ := ih (fun j hj => h j (by omega)) (by omega)
    have h3 := step_gd (t := l.getD n 0) h1 (h n (by omega))
    exact ⟨h3.1, by show (step (stk l n) (l.getD n 0)).length ≤ n + 1; omega⟩
theorem stk_none {l : List Int} {n : Nat} {t : Int} (hn : n < l.length) (hx : l[n] = t) (hp : pick 501 ((stk l n).map hOf) 0 t (stk l n).length = none) : stk l (n + 1) = stk l n ++ [[t]] := by
  show step (stk l n) (l.getD n 0) = _
  rw [int_at hn, hx]; unfold step; rw [hp]
theorem stk_some {l : List Int} {n i : Nat} {t : Int} (hn : n < l.length) (hx : l[n] = t) (hp : pick 501 ((stk l n).map hOf) 0 t (stk l n).length = some i) : stk l (n + 1) = (stk l n).set i ((stk l n).getD i [] ++ [t]) := by
  show step (stk l n) (l.getD n 0) = _
  rw [int_at hn, hx]; unfold step; rw [hp]
theorem rows_len {m : List R} {rows : List (List Int)} (h : pl m = rows.map hOf) : m.length = rows.length := by rw [← pl_len m, h, List.length_map]
theorem rows_at {m : List R} {rows : List (List Int)} (h : pl m = rows.map hOf) {k : Nat} {y : R} (hk : k < m.length) (hy : m[k] = y) : ∃ (h : k < rows.length), y.pure = hOf rows[k] := by
  have hl := rows_len h
  have h1 := pl_x hk hy
  refine ⟨by omega, ?_⟩
  rw [← h1]
  simp only [h, List.getElem_map]
theorem info_S : (Try.prog.info? 82).map (fun i => (i.zero, i.size, i.bytes)) = some (some (.slice none 0 0), 1, 24) := by kernel_rfl
set_option maxHeartbeats 1600000 in
theorem stack_impl (P : Option Addr) (cap : Nat) (l : List Int) (w : World) (hr : Rd w w.heap.size P (iv l)) (hn : l.length ≤ 1048576) :
    Calls Try.prog 64 #[.slice P l.length cap] w (TabS.TPost (stkF l) (stkOk l) w) := by
  obtain ⟨i0, hi0, hz0, hz1, hz2⟩ := info_parts info_int
  have HI := Lib.hid hz2; clear hz2
  have HI1 := Lib.hid hz1; clear hz1
  obtain ⟨i1, hi1, hy0, hy1, hy2⟩ := info_parts info_T
  have HJ := Lib.hid hy2; clear hy2
  have HJ1 := Lib.hid hy1; clear hy1
  obtain ⟨i2, hi2, hx0, hx1, hx2⟩ := info_parts info_S
  have HK := Lib.hid hx2; clear hx2
  have HK1 := Lib.hid hx1; clear hx1
  have HR := Lib.hid hr; clear hr
  by_cases h20 : l.length ≤ 20
  · have h20' : decide ((20 : Int) < l.length) = false := decide_eq_false (by omega)
    have HO0 := Lib.hid (HeapV.h_none (Below.refl w.heap.size w))
    go_enter Try.func64, Try.ntmps64
    go_wp2
    go_loopw [4, 19] (fun v i wr => ∃ (k : Nat) (m : List R) (A : Option Addr) (c : Nat), k ≤ l.length ∧ i = .int .i64 k ∧ v = .slice A m.length c ∧ Hid (Ok (layOk l) k) ∧ Hid (pl m = (stk l k).map hOf) ∧ Hid (Own wr w.heap.size wr.heap.size A c m) ∧ Below w.heap.size w wr) (fun _ i _ => l.length - (intOf i).toNat)
    case atStart => exact ⟨0, [], _, _, Nat.zero_le _, rfl, rfl, Lib.hid (Ok.zero _), Lib.hid rfl, HO0, al (Below.refl _ _)⟩
    case round =>
      clear HO0
      obtain ⟨k, m, A, c, hk, rfl, rfl, HOK, HP0, HO, HB⟩ := hrel
      have hgd := stk_gd HOK.out hk
      have HML := Lib.hid (show m.length ≤ 20 by rw [rows_len HP0.out]; omega)
      have HROWS := Lib.hid (show ∀ x ∈ m, x.f2.ls.length ≤ 12 from fun x hx => by
        obtain ⟨j, hj, rfl⟩ := List.getElem_of_mem hx
        obtain ⟨h1, h2⟩ := rows_at HP0.out hj rfl
        have h3 := okLs_len (hgd.1 _ (List.getElem_mem h1)).2
        have h4 : m[j].f2.ls = (stk l k)[j] := congrArg H.ls h2
        rw [h4]; exact h3)
      have HGD := Lib.hid hgd; clear hgd
      by_cases hlt : k < l.length
      · obtain ⟨b, o, rfl, hb, hc⟩ := HR.out.at (k := k) (by rw [iv_len]; exact hlt)
        obtain ⟨t, ht⟩ : ∃ t, l[k] = t := ⟨_, rfl⟩
        have h0 : wr.cell? ⟨b, o + k, none⟩ = some (.int .i64 t) := ((bcell HB).1 _ _ hb).trans (by rw [← ht]; exact hc k _ (iv_get l k hlt))
        have HT := Lib.hid ht; clear ht hc
        have HL := Lib.hid hlt
        cases hin : inB t 1 500
        · have HV := Lib.hid (stkOk_bad HL.out HT.out hin)
          have O := TabS.t_none HB
          go_wp2_with (go_at_call 128; (with_reducible refine (layer_impl _ _).mono ?_); rintro e' w' ⟨rfl, rfl⟩; try rw [hin])
          go_ret2
          exact TabS.t_mk (m := []) (stk_no HV.out) HV.out rfl O (al HB)
        have HOK1 := Lib.hid (HOK.out.next (lay_ok HL.out HT.out hin))
        have HIN := Lib.hid (of_inB hin)
        go_wp2_with (go_at_call 128; (with_reducible refine (layer_impl _ _).mono ?_); rintro e' w' ⟨rfl, rfl⟩; try rw [hin])
        clear hin
        refine (place_impl A c m 0 t wr ((HO.out.hs (by have := HML.out; omega) (fun x hx => by have := HROWS.out x hx; omega))) (fun x hx => by have := HROWS.out x hx; omega)).mono ?_
        rintro e w2 ⟨rfl, hB2⟩
        have HO2 := Lib.hid ((HO.out.keep hB2).mono hB2.size)
        have hb2 := be HB hB2
        clear hB2 h0
        obtain ⟨po, hpo⟩ : ∃ po, pick 501 (pl m) 0 t m.length = po := ⟨_, rfl⟩
        have hpo2 : pick 501 ((stk l k).map hOf) 0 t (stk l k).length = po := by rw [← rows_len HP0.out, ← HP0.out]; exact hpo
        rw [hpo]
        have hpoL : ∀ i, po = some i → i < m.length := fun i hi => by subst hi; exact (pick_ok (by rw [pl_len]; exact Nat.le_refl _) hpo).1
        clear hpo
        cases po with
        | none =>
          have HN := Lib.hid (stk_none HL.out HT.out hpo2)
          clear hpo2 hpoL
          unfold pTuple
          have HO2K := HO2.out
          have HNZ := Lib.hid (HeapC.new_cells w2 zero 91)
          have HOZ := Lib.hid (HO2K.keep (al (Below.refl _ _) (o := .cells #[.int .i64 zero.f0, .int .i64 zero.f1, .slice zero.f2.A zero.f2.ls.length zero.f2.cap, .bool zero.f3] 91))).out
          have hwb : w.heap.size ≤ w2.heap.size := hb2.size
          have hm20 := HML.out
          have HMLL := Lib.hid hm20
          have hm1 : m.length + 1 ≤ maxLen := by unfold maxLen; omega
          have hm2 : (m.length + 1) * 48 ≤ 140737488355328 := by omega
          clear HO2K hm20
          go_upto_region 13 with (at_builtin; go_must (refine wpList_append_lies _ rfl _ _ 73 rfl w.heap.size 91 i1 _ 4 48 Try.underlying73 hi1 hy0 HJ1.out HJ.out rfl (by decide) (.slice A m.length c) m.length (flat m) rfl HOZ.out ⟨w2.heap.size, 0, none⟩ 1 1 (R.cells zero) rfl rfl HNZ.out (HeapC.cells_one zero) (by decide) hm1 hm2 (by rw [size_alloc']; omega) _ rfl ?_; intro g3 c5 w5 hown5 hgrow5 hat5 hlt5))
          have HO5 : Hid (Own w5 w.heap.size w5.heap.size (some ⟨g3, 0, none⟩) c5 (m ++ [zero])) := Lib.hid (by
            have hL : (m ++ [zero]).length = m.length + 1 := by simp
            refine Own.snoc HO2.out hwb (Nat.le_refl _) (al (Below.refl _ _)) (RowOwn.nil _ _) (by rw [hL, flat_snoc]; exact hown5) hgrow5 (fun j hj => ?_)
            have e : g3 = j := by simpa [Value.ownBlock] using hj
            subst e
            rcases hat5 with h1 | h1
            · exact .inl h1
            · exact .inr (Nat.le_of_eq h1.symm))
          have hb5 : Below w.heap.size w w5 := bl_grown (al hb2) hgrow5 (fun j hj => own_ge HO2.out.out j hj)
          clear hown5 hgrow5 hat5 hlt5
          have hmk : m.length < (m ++ [zero]).length := by simp
          obtain ⟨y, hy⟩ : ∃ y, (m ++ [zero])[m.length] = y := ⟨_, rfl⟩
          obtain ⟨d0, d1, d2, d3⟩ := HO5.out.at hmk hy
          have HRO := Lib.hid (show RowOwn w5 w.heap.size y.f2 by rw [← hy]; exact HO5.out.row hmk)
          have HOA := Lib.hid (World.ownsRow.alloc HRO.out (.cells #[.int .i64 t] 3))
          have HNC := Lib.hid (HeapP.cell_one w5 (.int .i64 t) 3)
          have hyl : y.f2.ls.length ≤ 1000 := by rw [← hy]; simp [zero, Row.nil]
          have HY := Lib.hid hy
          have HMK := Lib.hid hmk
          have hwb : w.heap.size ≤ w5.heap.size := hb5.size
          clear d0 d1 d3 hy
          go_wp2_with (at_builtin; go_must (refine wpList_append_lies _ rfl _ _ 82 rfl w.heap.size 3 i0 _ 1 8 Try.underlying82 hi0 hz0 HI1.out HI.out rfl (by decide) (.slice y.f2.A y.f2.ls.length y.f2.cap) y.f2.ls.length (iv y.f2.ls) rfl HOA.out ⟨w5.heap.size, 0, none⟩ 1 1 [.int .i64 t] rfl rfl HNC.out (one_cell rfl) (by decide) (by unfold maxLen; omega) (by omega) (by rw [size_alloc']; omega) _ rfl ?_; intro g9 c9 w9 hown1 hgrow hat hlt9; have HP := Lib.hid (HeapV.appRow (w9 := w9) (g9 := g9) (c9 := c9) (t := t) HO5.out HMK.out (by rw [HY.out]; exact HeapP.row_snoc hown1) (by rw [HY.out]; exact hgrow) (by rw [HY.out]; exact hat)); have hd := HeapC.own_at HP.out.1 HMK.out HY.out; have e2 := hd.2.2.1; have e4 : w9.frozen? ⟨g3, m.length * 4 + 2, none⟩ = false := HP.out.1.frozenAt _; have HG9 := Lib.hid hgrow; clear hd hown1 hgrow hat hlt9))
          go_roundw
          case rel =>
            have hP2 := HP.out.2
            rw [HY.out] at hP2
            rw [show (y.f2.ls ++ [t]).length = y.f2.ls.length + 1 by simp] at hP2
            refine ⟨k + 1, (m ++ [zero]).set m.length ⟨y.f0, y.f1, ⟨some ⟨g9, 0, none⟩, c9, y.f2.ls ++ [t]⟩, y.f3⟩, _, _, HL.out, by go_num, by rw [List.length_set, List.length_append] <;> rfl, HOK1, Lib.hid ?_, Lib.hid (by rw [size_set']; exact hP2), ?_⟩
            · have hyz : y = zero := by have := HY.out; simpa using this.symm
              subst hyz
              rw [HN.out, List.map_append, ← HP0.out, List.set_append_right _ _ (Nat.le_refl _), Nat.sub_self, List.set_cons_zero]
              simp [pl, R.pure, hOf, zero, Row.nil]
            · exact (bl_grown (al hb5 (o := .cells #[.int .i64 t] 3)) HG9.out (fun j hj => (HRO.out.lt j hj).1)).setCell (own_ge HO5.out.out g3 rfl) _
          case measure => have := HL.out; simp [intOf]; omega
        | some i =>
          have HN := Lib.hid (stk_some HL.out HT.out hpo2)
          have him := hpoL i rfl
          clear hpo2 hpoL
          unfold pTuple
          have hw2 := hb2
          have hmk : i < m.length := him
          obtain ⟨g3, hA3⟩ := HO2.out.ptr (by omega)
          subst hA3
          obtain ⟨y, hy⟩ : ∃ y, m[i] = y := ⟨_, rfl⟩
          obtain ⟨d0, d1, d2, d3⟩ := HO2.out.at hmk hy
          have HRO := Lib.hid (show RowOwn w2 w.heap.size y.f2 by rw [← hy]; exact HO2.out.row hmk)
          have HOA := Lib.hid (World.ownsRow.alloc HRO.out (.cells #[.int .i64 t] 3))
          have HNC := Lib.hid (HeapP.cell_one w2 (.int .i64 t) 3)
          have hyl : y.f2.ls.length ≤ 1000 := by rw [← hy]; have := HROWS.out _ (List.getElem_mem hmk); omega
          have HY := Lib.hid hy
          have HMK := Lib.hid hmk
          have hwb : w.heap.size ≤ w2.heap.size := hb2.size
          clear d0 d1 d3 hy
          go_wp2_with (at_builtin; go_must (refine wpList_append_lies _ rfl _ _ 82 rfl w.heap.size 3 i0 _ 1 8 Try.underlying82 hi0 hz0 HI1.out HI.out rfl (by decide) (.slice y.f2.A y.f2.ls.length y.f2.cap) y.f2.ls.length (iv y.f2.ls) rfl HOA.out ⟨w2.heap.size, 0, none⟩ 1 1 [.int .i64 t] rfl rfl HNC.out (one_cell rfl) (by decide) (by unfold maxLen; omega) (by omega) (by rw [size_alloc']; omega) _ rfl ?_; intro g9 c9 w9 hown1 hgrow hat hlt9; have HP := Lib.hid (HeapV.appRow (w9 := w9) (g9 := g9) (c9 := c9) (t := t) HO2.out HMK.out (by rw [HY.out]; exact HeapP.row_snoc hown1) (by rw [HY.out]; exact hgrow) (by rw [HY.out]; exact hat)); have hd := HeapC.own_at HP.out.1 HMK.out HY.out; have e2 := hd.2.2.1; have e4 : w9.frozen? ⟨g3, i * 4 + 2, none⟩ = false := HP.out.1.frozenAt _; have HG9 := Lib.hid hgrow; clear hd hown1 hgrow hat hlt9))
          go_roundw
          case rel =>
            have hP2 := HP.out.2
            rw [HY.out] at hP2
            rw [show (y.f2.ls ++ [t]).length = y.f2.ls.length + 1 by simp] at hP2
            refine ⟨k + 1, m.set i ⟨y.f0, y.f1, ⟨some ⟨g9, 0, none⟩, c9, y.f2.ls ++ [t]⟩, y.f3⟩, _, _, HL.out, by go_num, by rw [List.length_set] <;> rfl, HOK1, Lib.hid ?_, Lib.hid (by rw [size_set']; exact hP2), ?_⟩
            · rw [HN.out, List.map_set]
              have hyp := rows_at HP0.out HMK.out HY.out
              obtain ⟨h1, h2⟩ := hyp
              rw [show pl (m.set i ⟨y.f0, y.f1, ⟨some ⟨g9, 0, none⟩, c9, y.f2.ls ++ [t]⟩, y.f3⟩) = (pl m).set i (⟨y.f0, y.f1, y.f2.ls ++ [t], y.f3⟩ : H) by simp [pl, List.map_set, R.pure], HP0.out]
              congr 1
              have e0 : (stk l k).getD i [] = y.f2.ls := by
                have h3 : y.f2.ls = (stk l k)[i] := congrArg H.ls h2
                rw [h3]; simp [List.getD, h1]
              rw [e0]
              have e1 : y.f0 = 0 := congrArg H.id h2
              have e2 : y.f1 = 0 := congrArg H.gr h2
              have e3 : y.f3 = false := congrArg H.cov h2
              rw [e1, e2, e3]; rfl
            · exact (bl_grown (al hb2 (o := .cells #[.int .i64 t] 3)) HG9.out (fun j hj => (HRO.out.lt j hj).1)).setCell (own_ge HO2.out.out g3 rfl) _
          case measure => have := HL.out; simp [intOf]; omega
      · have hkk : k = l.length := by omega
        have HV := Lib.hid (stkOk_end h20 HOK.out (show l.length ≤ k by omega))
        have HF := Lib.hid (show stkF l = stk l k by rw [stk_yes HV.out, hkk])
        have HA := Lib.hid (show (m.map R.f2).map Row.ls = stk l k by
          have h1 : (pl m).map H.ls = ((stk l k).map hOf).map H.ls := by rw [HP0.out]
          simpa [pl, List.map_map, Function.comp_def, R.pure, hOf] using h1)
        have HLN := Lib.hid (show (m.map R.f2).length = m.length by simp)
        clear hkk HOK HP0 HGD
        have hm20 := HML.out
        have c1 : i2.bytes * m.length ≤ 281474976710656 := by rw [HK.out]; omega
        have c2 : m.length ≤ maxLen := by unfold maxLen; omega
        go_wp2_with (at_make; go_must (refine wpList_make_full _ rfl _ _ 84 rfl wr.heap.size 82 i2 _ 1 Try.underlying84 hi2 hx0 HK1.out _ _ _ _ m.length rfl rfl rfl rfl c1 c2 (Nat.le_refl _) ?_; intro w1 hown1 hg1))
        have hB1 : Below wr.heap.size wr w1 := (Below.refl _ wr).grown hg1 (Nat.le_refl _) (by intro k hk; cases hk)
        have hown : w1.ownsRow wr.heap.size 82 1 (.slice (some ⟨wr.heap.size, 0, none⟩) m.length m.length) m.length (TabS.tv (half Row.nil (m.map R.f2) 0)) := by
          have e : TabS.tv (half Row.nil (m.map R.f2) 0) = (madeCells #[Value.slice none 0 0] (m.length * 1)).toList := by
            rw [Nat.mul_one, toList_madeCells_one, half_zero, HLN.out]; simp [TabS.tv, Row.nil, Row.val]
          rw [e]; exact hown1
        clear hown1 hg1 c1 c2
        obtain ⟨N, hN⟩ : ∃ N, wr.heap.size = N := ⟨_, rfl⟩
        rw [hN] at hown hB1 ⊢
        have HBN := Lib.hid (show w.heap.size ≤ N by rw [← hN]; exact HB.size)
        have HWB := Lib.hid HB
        have HON := Lib.hid (show Own wr w.heap.size N A c m by rw [← hN]; exact HO.out)
        have HNN := Lib.hid hN
        clear hN HB HO
        go_loopw [59] (fun i wx => ∃ k : Nat, k ≤ m.length ∧ i = .int .i64 k ∧ Hid (wx.ownsRow N 82 1 (.slice (some ⟨N, 0, none⟩) m.length m.length) m.length (TabS.tv (half Row.nil (m.map R.f2) k))) ∧ Hid (Below N wr wx)) (fun i _ => m.length - (intOf i).toNat)
        case atStart => exact ⟨0, Nat.zero_le _, rfl, Lib.hid hown, Lib.hid hB1⟩
        case round =>
          clear hown hB1
          obtain ⟨k, hk, rfl, HOW, HBX⟩ := hrel
          by_cases hlt : k < m.length
          · obtain ⟨g, rfl⟩ := HON.out.ptr (by omega)
            obtain ⟨y, hy⟩ : ∃ y, m[k] = y := ⟨_, rfl⟩
            have hox := HON.out.keep (by rw [HNN.out]; exact HBX.out)
            obtain ⟨d0, d1, d2, d3⟩ := hox.at hlt hy
            have hfl : (TabS.tv (half Row.nil (m.map R.f2) k)).length = m.length := by rw [TabS.tv_len, half_len _ _ _ (by rw [HLN.out]; omega), HLN.out]
            have HW2 := Lib.hid (World.ownsRow.alloc HOW.out (.cells #[.int .i64 y.f0, .int .i64 y.f1, .slice y.f2.A y.f2.ls.length y.f2.cap, .bool y.f3] 91))
            obtain ⟨q0, m0⟩ : ∃ v, (World.alloc _ (.cells #[.int .i64 y.f0, .int .i64 y.f1, .slice y.f2.A y.f2.ls.length y.f2.cap, .bool y.f3] 91)).cell? ⟨N, k, none⟩ = some v := ⟨_, (HW2.out.cellAt k (by omega)).trans (List.getElem?_eq_getElem (by rw [hfl]; exact hlt))⟩
            have g0 := HW2.out.frozenAt k
            have hNs : N < _ := own_lt HOW.out
            have HY := Lib.hid hy
            have HL := Lib.hid hlt
            clear hox hy hfl
            go_wp2
            go_roundw
            case rel =>
              refine ⟨k + 1, HL.out, by go_num, Lib.hid ?_, Lib.hid ((HBX.out.setCell (p := ⟨N, k, none⟩) (Nat.le_refl _) _).alloc (by rw [size_set']; omega) _)⟩
              have h1 := (HOW.out.stored k (.slice y.f2.A y.f2.ls.length y.f2.cap)).1
              rw [TabS.tv_set] at h1
              have h2 := half_set Row.nil (m.map R.f2) k (by rw [HLN.out]; exact HL.out)
              have h3 : (m.map R.f2)[k]'(by rw [HLN.out]; exact HL.out) = y.f2 := by rw [List.getElem_map]; exact congrArg R.f2 HY.out
              rw [h3] at h2
              rw [h2] at h1
              exact World.ownsRow.alloc h1 _
            case measure => have := HL.out; simp [intOf]; omega
          · have hkk : k = m.length := by omega
            have HOX := Lib.hid (HON.out.keep (by rw [HNN.out]; exact HBX.out))
            have HOU := Lib.hid (show World.ownsRow _ N 82 1 (.slice (some ⟨N, 0, none⟩) (m.map R.f2).length m.length) (m.map R.f2).length (TabS.tv (m.map R.f2)) by
              have h1 := HOW.out
              rw [show half Row.nil (m.map R.f2) k = m.map R.f2 by rw [hkk, ← HLN.out, half_full]] at h1
              rw [HLN.out]; exact h1)
            clear hkk
            go_wp2
            go_ret2
            have hNl := own_lt HOU.out
            have hob : (Value.slice (some ⟨N, 0, none⟩) (m.map R.f2).length m.length).ownBlock = some N := rfl
            refine TabS.t_mk (m := m.map R.f2) (by rw [HF.out, ← HA.out]; rfl) HV.out (by rw [HLN.out]; rfl) ⟨own_base HOU.out HBN.out, fun j hj => (HOU.out.lt j hj).2, ?_⟩ (HWB.out.trans (HBX.out.mono HBN.out))
            exact (HOX.out.inn.outer (fun j hj => by rw [hob] at hj; injection hj with hj; exact .inr (by omega))).mono (by omega)
  · have h20' : decide ((20 : Int) < l.length) = true := decide_eq_true (by omega)
    have HV := Lib.hid (stkOk_long (l := l) (by omega))
    have O := TabS.t_none (Below.refl w.heap.size w)
    go_enter Try.func64, Try.ntmps64
    go_wp2
    go_ret2
    exact TabS.t_mk (m := []) (stk_no HV.out) HV.out rfl O (al (Below.refl _ _))
end Go.Proofs.Ytpbmncecejchjaa.Stack
