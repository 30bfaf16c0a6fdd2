/- The draw of one heap. Made by tools/mk_dheap.py. -/
import Derived.Deep.Cut
import Derived.Deep.CutBlock
import Derived.Deep.CutRange
import Derived.Deep.DeepCutAuto
import Derived.Deep.RegionLawGrows
import Derived.Test.YtokgncbcknpfiaaDoorDHeap0
import Derived.Test.YtokgncbcknpfiaaDoorRegn3
namespace Go.Proofs.YtokgncbcknpfiaaDoor.DHeap
open Go.RowKit Go.Proofs.YtokgncbcknpfiaaDoor.Mem Go.Proofs.YtokgncbcknpfiaaDoor.Base Go.Proofs.YtokgncbcknpfiaaDoor.Draw Go.Proofs.YtokgncbcknpfiaaDoor.Boxes Go.Proofs.YtokgncbcknpfiaaDoor.Keep Go.Proofs.YtokgncbcknpfiaaDoor.Dr Go.Proofs.YtokgncbcknpfiaaDoor.SInt Go.Proofs.YtokgncbcknpfiaaDoor.Nest Go.Proofs.YtokgncbcknpfiaaDoor.DHeap0 Go.Proofs.YtokgncbcknpfiaaDoor.Regn
set_option linter.unusedVariables false
set_option linter.unusedSimpArgs false
set_option maxRecDepth 100000
theorem step_own {P : Program} {w : World} {yf : Nat → Option Bool} {o : Oper} {a : Act} {K : Act → World → Prop} {Q : Exit → Act → World → Prop} {E : Prop} (hgd : o.guard = none) (s x : Operand) (t : TypeId)
    (ho : o.op = .call { callee := .builtin .append, args := #[s, x], argTypes := #[t, t] })
    (base : Nat) (e : TypeId) (i : TypeInfo) (z : Value) (size bytes : Nat) (ht : P.underlying t = some (.slice e)) (hi : P.info? e = some i) (hz : i.zero = some z)
    (hsize : i.size = size) (hby : i.bytes = bytes) (hzs : z.cells.size = size) (hsz : 0 < size)
    (v : Value) (n : Nat) (xs : List Value) (hs : a.eval s = v) (hown : w.ownsRow base e size v n xs)
    (ad : Addr) (m c : Nat) (news : List Value) (hx : a.eval x = .slice (some ad) m c) (hl : news.length = m * size) (hnews : ∀ j u, news[j]? = some u → w.cell? (ad.add j) = some u) (h1 : ∀ u ∈ news, u.oneCell' = true)
    (h63 : n + m ≤ maxLen) (hbytes : (n + m) * bytes ≤ 140737488355328) (hbase : base ≤ w.heap.size)
    (h : ∀ v' w', w'.ownsRow base e size v' (n + m) (xs ++ news) → w.grownBy w' v.ownBlock → (v' = .slice none 0 0 ↔ v = .slice none 0 0 ∧ m = 0) → K (a.put o.dst v') w') :
    if Region.wanted o yf = true then Oper.wp P o a w K Q else E := by
  rw [if_pos (by simp [Region.wanted, hgd])]
  exact wp_append_own w s x t ho base e i z size bytes ht hi hz hsize hby hzs hsz v n xs hs hown ad m c news hx hl hnews h1 h63 hbytes hbase h
/-- a heap drawn: its layers lie beyond the cursor. -/
def One (B : Nat) (zs : List Int) (p K : Nat) (w : World) (e : Ending) (V : World) : Prop :=
  ∃ x : HeapS.R, x.f2.ls.length ≤ 30 ∧ e = .returned x.val ∧ RowOwn V (p + 1) x.f2 ∧ Cu B zs p (K + 100) V ∧ w.grownBy V (some p)
set_option maxHeartbeats 8000000 in
theorem heap_d (B : Nat) (zs : List Int) (p K : Nat) (w : World) (C : Cu B zs p K w) (hK : K ≤ 600000000) (id : Int) :
    Calls Tryd.prog 54 #[.pointer (some ⟨p, 0, none⟩), .int .i64 id] w (One B zs p K w) := by
  obtain ⟨i0, hi0, hz0, hz1, hz2⟩ := info_parts DStack.info_int
  have HI := Lib.hid hz2; clear hz2
  have HI1 := Lib.hid hz1; clear hz1
  go_enter Tryd.func54, Tryd.ntmps54
  have hp := C.lt
  have hB := C.base
  have GW : w.grownBy w (some p) := grown_refl w _
  go_wp2_with fail
  have R := Cb.new w [.int .i64 0, .int .i64 0, .slice none 0 0, .bool false] 41 (g := w.heap.size) rfl
  replace C := (C.alloc (.cells #[.int .i64 0, .int .i64 0, .slice none 0 0, .bool false] 41))
  replace GW := (grown_trans GW (grown_alloc _ (.cells #[.int .i64 0, .int .i64 0, .slice none 0 0, .bool false] 41) _))
  have su1 : (w.alloc (.cells #[.int .i64 0, .int .i64 0, .slice none 0 0, .bool false] 41)).heap.size = w.heap.size + 1 := by simp only [size_alloc']
  generalize (w.alloc (.cells #[.int .i64 0, .int .i64 0, .slice none 0 0, .bool false] 41)) = u1 at R GW C su1 ⊢
  have zu1 := GW.size
  try go_wp2_with fail
  refine (among_d B zs p (K) _ _ 4 [1, 1, 2, 4] (C.alloc (.cells #[.int .i64 1, .int .i64 1, .int .i64 2, .int .i64 4] 3)) (by omega) (lst_at u1 _ _ (by omega)) (by omega) (by simp) (by simp)).mono ?_
  rintro e u2 ⟨gr, hx, rfl, C1, G⟩
  have gr_r : 1 ≤ gr ∧ gr ≤ 4 := by simp at hx; omega
  clear hx
  have yu2 : u1.heap.size ≤ u2.heap.size := (by have := G.size; simp only [size_alloc'] at this; omega)
  replace R := (R.alloc (.cells #[.int .i64 1, .int .i64 1, .int .i64 2, .int .i64 4] 3)).went G (by omega)
  replace GW := grown_trans (grown_trans GW (grown_alloc _ (.cells #[.int .i64 1, .int .i64 1, .int .i64 2, .int .i64 4] 3) _)) G
  replace C := C1
  clear C1 G
  have zu2 := GW.size
  try go_wp2_with fail
  refine (one_d B zs p (K + 2) _ 4 C (by omega) (by omega) (by omega)).mono ?_
  rintro e u3 ⟨cv, rfl, C1, G⟩
  have yu3 : u2.heap.size ≤ u3.heap.size := G.size
  replace R := (R).went G (by omega)
  replace GW := grown_trans GW G
  replace C := C1
  clear C1 G
  have zu3 := GW.size
  go_wp2_with fail
  have H := Cb.new u3 [.int .i64 id, .int .i64 gr, .slice none 0 0, .bool cv] 41 (g := u3.heap.size) rfl
  replace R := (R.alloc (.cells #[.int .i64 id, .int .i64 gr, .slice none 0 0, .bool cv] 41))
  replace C := (C.alloc (.cells #[.int .i64 id, .int .i64 gr, .slice none 0 0, .bool cv] 41))
  replace GW := (grown_trans GW (grown_alloc _ (.cells #[.int .i64 id, .int .i64 gr, .slice none 0 0, .bool cv] 41) _))
  have su4 : (u3.alloc (.cells #[.int .i64 id, .int .i64 gr, .slice none 0 0, .bool cv] 41)).heap.size = u3.heap.size + 1 := by simp only [size_alloc']
  generalize (u3.alloc (.cells #[.int .i64 id, .int .i64 gr, .slice none 0 0, .bool cv] 41)) = u4 at H R GW C su4 ⊢
  have zu4 := GW.size
  have HP := Lib.hid (show Hp B zs p (K + 2 + 2) w w.heap.size u3.heap.size id gr cv none 0 [] u4 from ⟨C, GW, R, H, World.ownsRow_nil _ _ _ _, hp, Nat.le_refl _, by omega, fun x hx => by cases hx⟩)
  have hsz : u3.heap.size + 1 = u4.heap.size := by omega
  obtain ⟨gR, hgR⟩ : ∃ gR, w.heap.size = gR := ⟨_, rfl⟩
  rw [hgR] at HP ⊢
  generalize u3.heap.size = gH at HP hsz ⊢
  generalize u4 = V at HP hsz ⊢
  clear C GW R H hgR
  refine (HP.out.among (by omega) [500, 120, 40] 3 (by simp) (by simp) hsz).mono ?_
  rintro e V1 ⟨tp, htp, rfl, hp1⟩
  have htp2 : 0 ≤ tp ∧ tp ≤ 500 := by simp at htp; omega
  replace HP := Lib.hid hp1; clear hp1 htp
  go_wp2_with fail
  refine (HP.out.pick (by omega) 5 (by omega) (by omega)).mono ?_
  rintro e V2 ⟨n0, hn0, rfl, hp1⟩
  replace HP := Lib.hid hp1; clear hp1
  obtain ⟨m0, rfl⟩ : ∃ m : Nat, n0 = m := ⟨n0.toNat, by omega⟩
  go_upto_block 0 with fail
  go_cut [] from 6 (fun wc => ∃ (A1 : Option Addr) (c1 : Nat) (L : List Int), L.length ≤ 5 ∧ Hid (Hp B zs p (K + 40) w gR gH id gr cv A1 c1 L wc))
  case first => as_aux_lemma =>
    go_wp2_with fail
    go_loopw [6, 7] (fun tv nv wr => ∃ (n : Nat) (t : Int) (A1 : Option Addr) (c1 : Nat) (L : List Int), n ≤ 5 ∧ nv = .int .i64 n ∧ tv = .int .i64 t ∧ 0 ≤ t ∧ t ≤ 500 ∧ L.length + n ≤ 5 ∧ Hid (Hp B zs p (K + 20 + 2 * L.length) w gR gH id gr cv A1 c1 L wr)) (fun _ nv _ => (intOf nv).toNat)
    case atStart => exact ⟨m0, tp, none, 0, [], by omega, rfl, rfl, htp2.1, htp2.2, by simp <;> omega, Lib.hid (HP.out.le (by simp <;> omega))⟩
    case round =>
      clear HP htp2 hn0
      obtain ⟨n, t, A1, c1, L, hn, rfl, rfl, t0, t1, hL, HP⟩ := hrel
      by_cases hgo : 0 < n ∧ 0 < t
      · obtain ⟨hn1, ht1⟩ := hgo
        have d1 : decide ((0 : Int) < n) = true := decide_eq_true (by omega)
        have d2 : decide (0 < t) = true := decide_eq_true ht1
        have d3 : decide (0 < n) = true := decide_eq_true hn1
        have e1 : t.tdiv 2 = t / 2 := Int.tdiv_eq_ediv_of_nonneg t0
        have e2 : IntKind.i64.wrap (t / 2) = t / 2 := IntWalk.i64_in _ (by omega)
        have e3 : IntKind.i64.wrap (t - 1) = t - 1 := IntWalk.i64_in _ (by omega)
        have HL := Lib.hid hL
        obtain ⟨_, _, h2, _⟩ := HP.out.cellsH
        have hlt := HP.out.lt
        go_wp2_with (at_builtin; go_must (refine wpList_append_own _ rfl _ _ 39 rfl (gH + 1) 3 i0 _ 1 8 Tryd.underlying39 hi0 hz0 HI1.out HI.out rfl (by decide) _ L.length _ rfl (HP.out.O.alloc _) ⟨wr.heap.size, 0, none⟩ 1 1 [.int .i64 (t)] rfl rfl (DStack.new1 wr (t)) (DStack.one1 (t)) (by unfold maxLen; omega) (by omega) (by rw [size_alloc']; omega) ?_; intro v' w10 hown1 hgrow hnil; obtain ⟨A1, c1, rfl⟩ := own_form hown1; have HM := HP.out.mid hgrow; have m2 := HM.2.2.2.cells 2 _ rfl; have mf := HM.2.2.2.free 2 (by simp)))
        have HA := HP.out.app hgrow hown1 (show 0 ≤ t ∧ t ≤ 501 by omega)
        clear HM m2 mf hnil hown1 hgrow
        obtain ⟨X, hX⟩ : ∃ X, w10.setCell ⟨gH, 2, none⟩ (.slice A1 (L.length + 1) c1) = X := ⟨_, rfl⟩
        have hXs : w10.heap.size = X.heap.size := by rw [← hX, size_set']
        rw [hX] at HA ⊢
        clear hX
        replace HP := Lib.hid HA; clear HA
        refine (HP.out.among (by omega) [t, t - 1, t / 2, 5] 4 (by simp) (by simp) hXs).mono ?_
        rintro e V3 ⟨z, hz, rfl, hp1⟩
        have hz2 : 0 ≤ z ∧ z ≤ 500 := by simp at hz; omega
        replace HP := Lib.hid hp1; clear hp1 hz h2
        have hLx : (L ++ [t]).length = L.length + 1 := by simp
        obtain ⟨_, _, h2, _⟩ := HP.out.cellsH
        obtain ⟨g2, c2, hA⟩ := own_some HP.out.O (by rw [hLx]; omega)
        obtain ⟨rfl, rfl⟩ := hA
        have hlast : V3.cell? ⟨g2, L.length, none⟩ = some (.int .i64 t) := by
          rw [HP.out.O.cellAt L.length (by rw [hLx]; omega)]
          simp [iv]
        rw [hLx] at h2
        have e4 : IntKind.i64.wrap ((L.length : Int) + 1 - 1) = L.length := by rw [show (L.length : Int) + 1 - 1 = L.length by omega]; exact IntWalk.i64_in _ (by omega)
        have HLX := Lib.hid hLx; clear hLx
        by_cases hzt : t < z
        · have d4 : decide (t < z) = true := decide_eq_true hzt
          go_wp2
          go_roundw
          case rel => exact ⟨n - 1, t, some ⟨g2, 0, none⟩, c1, L ++ [t], by omega, by rw [show ((n - 1 : Nat) : Int) = (n : Int) - 1 by omega] <;> rfl, rfl, t0, t1, by rw [HLX.out]; have := HL.out; omega, Lib.hid (HP.out.le (by rw [HLX.out]; omega))⟩
          case measure => simp [intOf]; omega
        · have d4 : decide (t < z) = false := decide_eq_false hzt
          go_wp2
          go_roundw
          case rel => exact ⟨n - 1, z, some ⟨g2, 0, none⟩, c1, L ++ [t], by omega, by rw [show ((n - 1 : Nat) : Int) = (n : Int) - 1 by omega] <;> rfl, rfl, hz2.1, hz2.2, by rw [HLX.out]; have := HL.out; omega, Lib.hid (HP.out.le (by rw [HLX.out]; omega))⟩
          case measure => simp [intOf]; omega

      · have HPL := Lib.hid (HP.out.le (K' := K + 40) (by omega))
        have hll : L.length ≤ 5 := by omega
        by_cases hn1 : 0 < n
        · have d1 : decide ((0 : Int) < n) = true := decide_eq_true (by omega)
          have d3 : decide (0 < n) = true := decide_eq_true hn1
          have d2 : decide (0 < t) = false := decide_eq_false (fun h => hgo ⟨hn1, h⟩)
          clear hgo
          go_wp2_with fail
          go_meet
          case rel => exact ⟨A1, c1, L, hll, HPL⟩
        · have d1 : decide ((0 : Int) < n) = false := decide_eq_false (by omega)
          have d3 : decide (0 < n) = false := decide_eq_false hn1
          clear hgo
          go_wp2_with fail
          go_meet
          case rel => exact ⟨A1, c1, L, hll, HPL⟩
  case rest => as_aux_lemma =>
    clear HP htp2 hn0
    obtain ⟨A1, c1, L, hL, HP⟩ := hcut
    go_wp2_with fail
    refine (HP.out.pick (by omega) 90 (by omega) (by omega)).mono ?_
    rintro e V3 ⟨z, hz, rfl, hp1⟩
    replace HP := Lib.hid hp1; clear hp1
    by_cases z0 : z = 0
    · subst z0
      go_wp2_with fail
      refine (HP.out.among (by omega) [0, 99, 100] 3 (by simp) (by simp) rfl).mono ?_
      rintro e V4 ⟨x, hx, rfl, hp1⟩
      replace HP := Lib.hid hp1; clear hp1 hx
      obtain ⟨h0, h1, h2, h3⟩ := HP.out.cellsH
      obtain ⟨f0, f1, f2⟩ := HP.out.freeH
      have HA := HP.out.setId x
      go_upto_region 24 with fail
      clear h0 h1 h2 h3 f0 f1 f2
      obtain ⟨X, hX⟩ : ∃ X, V4.setCell ⟨gH, 0, none⟩ (.int .i64 x) = X := ⟨_, rfl⟩
      rw [hX] at HA ⊢
      clear hX
      replace HP := Lib.hid HA; clear HA
      obtain ⟨h0, h1, h2, h3⟩ := HP.out.cellsH
      have r0 := HP.out.R.cells 0 _ rfl
      have r1 := HP.out.R.cells 1 _ rfl
      have r2 := HP.out.R.cells 2 _ rfl
      have r3 := HP.out.R.cells 3 _ rfl
      have f0 := HP.out.R.free 0 (by simp)
      have f1 := HP.out.R.free 1 (by simp)
      have f2 := HP.out.R.free 2 (by simp)
      have f3 := HP.out.R.free 3 (by simp)
      have hne := HP.out.o2
      go_wp2
      obtain ⟨q0, q1, q2, q3, hfin⟩ := HP.out.fin
      exact bodyPost_ret (v := (⟨x, gr, ⟨A1, c1, L⟩, cv⟩ : HeapS.R).val) (by simp [HeapS.R.val, results, Tryd.results54, go_sem, q0, q1, q2, q3]) rfl ⟨_, (by simp; omega), rfl, hfin.1, hfin.2.1.le (by omega), hfin.2.2⟩
    by_cases z1 : z = 1
    · subst z1
      go_wp2_with fail
      refine (HP.out.among (by omega) [0, 5] 2 (by simp) (by simp) rfl).mono ?_
      rintro e V4 ⟨x, hx, rfl, hp1⟩
      replace HP := Lib.hid hp1; clear hp1 hx
      obtain ⟨h0, h1, h2, h3⟩ := HP.out.cellsH
      obtain ⟨f0, f1, f2⟩ := HP.out.freeH
      have HA := HP.out.setGr x
      go_upto_region 24 with fail
      clear h0 h1 h2 h3 f0 f1 f2
      obtain ⟨X, hX⟩ : ∃ X, V4.setCell ⟨gH, 1, none⟩ (.int .i64 x) = X := ⟨_, rfl⟩
      rw [hX] at HA ⊢
      clear hX
      replace HP := Lib.hid HA; clear HA
      obtain ⟨h0, h1, h2, h3⟩ := HP.out.cellsH
      have r0 := HP.out.R.cells 0 _ rfl
      have r1 := HP.out.R.cells 1 _ rfl
      have r2 := HP.out.R.cells 2 _ rfl
      have r3 := HP.out.R.cells 3 _ rfl
      have f0 := HP.out.R.free 0 (by simp)
      have f1 := HP.out.R.free 1 (by simp)
      have f2 := HP.out.R.free 2 (by simp)
      have f3 := HP.out.R.free 3 (by simp)
      have hne := HP.out.o2
      go_wp2
      obtain ⟨q0, q1, q2, q3, hfin⟩ := HP.out.fin
      exact bodyPost_ret (v := (⟨id, x, ⟨A1, c1, L⟩, cv⟩ : HeapS.R).val) (by simp [HeapS.R.val, results, Tryd.results54, go_sem, q0, q1, q2, q3]) rfl ⟨_, (by simp; omega), rfl, hfin.1, hfin.2.1.le (by omega), hfin.2.2⟩
    by_cases z2 : z = 2
    · subst z2
      go_upto_region 17 with fail
      obtain ⟨S9, hS9⟩ : ∃ S9, S9 = L := ⟨_, rfl⟩
      subst hS9
      obtain ⟨kA, hkA⟩ : ∃ kA, kA = c1 := ⟨_, rfl⟩
      subst hkA
      have hlen := hL
      obtain ⟨C, GW, R, H, O, o0, o1, o2, hbd⟩ := HP.out
      have HBD := Lib.hid hbd; clear hbd
      have hB := C.base
      obtain ⟨K1, hK1, hK2⟩ : ∃ K1 : Nat, K1 ≤ 700000000 ∧ K + 40 + 2 = K1 := ⟨_, by omega, rfl⟩
      rw [hK2] at C
      have HK2 := Lib.hid hK2; clear hK2 HP
      refine wp_region_rel [77, 78, 79, 80, 81, 82, 83, 84] (fun L f w' => (Cb gR [.int .i64 0, .int .i64 0, .slice none 0 0, .bool false] w') ∧ (¬ L 8 → Cb gH [.int .i64 id, .int .i64 gr, .slice A1 S9.length kA, .bool cv] w') ∧ (¬ L 4 → Cu B zs p K1 w') ∧ (L 4 → Cu B zs p (K1 + 2) w') ∧ (w.grownBy w' (some p)) ∧ (¬ L 6 → w'.ownsRow (gH + 1) 3 1 (.slice A1 S9.length kA) S9.length (iv S9)) ∧ (L 0 → f 77 = .pointer (some ⟨gH, 2, none⟩)) ∧ (L 1 → f 78 = .slice A1 S9.length kA) ∧ (L 2 → f 79 = .pointer (some ⟨p, 0, none⟩)) ∧ (L 3 → ¬ L 4 → ∃ gl, f 80 = .slice (some ⟨gl, 0, none⟩) 3 3 ∧ gl ≠ p ∧ Lst w' gl (([0, 500, 501] : List Int).map (Value.int .i64))) ∧ (L 4 → ∃ m : Int, f 81 = .int .i64 m ∧ 0 ≤ m ∧ m ≤ 501) ∧ (L 5 → ¬ L 6 → ∃ (h9 : Nat) (m : Int), f 82 = .slice (some ⟨h9, 0, none⟩) 1 1 ∧ (0 ≤ m ∧ m ≤ 501) ∧ Cb h9 [.int .i64 m] w') ∧ (L 6 → ∃ A2 kB m, f 83 = .slice A2 (S9.length + 1) kB ∧ (0 ≤ m ∧ m ≤ 501) ∧ w'.ownsRow (gH + 1) 3 1 (.slice A2 (S9.length + 1) kB) (S9.length + 1) (iv S9 ++ [.int .i64 m])) ∧ (L 7 → f 84 = .pointer (some ⟨gH, 2, none⟩)) ∧ (L 8 → ∃ A2 kB m, (0 ≤ m ∧ m ≤ 501) ∧ w'.ownsRow (gH + 1) 3 1 (.slice A2 (S9.length + 1) kB) (S9.length + 1) (iv S9 ++ [.int .i64 m]) ∧ Cb gH [.int .i64 id, .int .i64 gr, .slice A2 (S9.length + 1) kB, .bool cv] w')) (by kernel_rfl) (by kernel_rfl) (by kernel_rfl) (fun f => ⟨R.more (Below.refl _ _).drew, fun _ => H.more (Below.refl _ _).drew, fun _ => C.more (Below.refl _ _).drew, fun h => h.elim, grown_more GW (Below.refl _ _).drew, fun _ => own_keep O (Below.refl _ _).drew, fun h => h.elim, fun h => h.elim, fun h => h.elim, fun h => h.elim, fun h => h.elim, fun h => h.elim, fun h => h.elim, fun h => h.elim, fun h => h.elim⟩) ?_ ?_
      · apply RelH.op2
        · intro L f u K hN hS hK
          simp only [puts, Act.put, List.setIfInBounds_toArray, List.set_cons_zero, List.set_cons_succ, upd, Nat.reduceEqDiff, ↓reduceIte, if_true, if_false] at hK ⊢
          have HS9 := Lib.hid hS
          obtain ⟨qR, qH, qC, qC1, qGW, qO, c0, c1, c2, c3, c4, c5, c6, c7, c8⟩ := hS
          clear qH qC qC1 qO c0 c1 c2 c3 c4 c5 c6 c7 c8
          go_simp
          obtain ⟨qR, qH, qC, qC1, qGW, qO, c0, c1, c2, c3, c4, c5, c6, c7, c8⟩ := HS9.out
          exact hK.out _ _ ⟨qR, fun z9 => qH (fun z => z9 (.inl z)), fun z9 => qC (fun z => z9 (.inl z)), fun z8 => qC1 (z8.resolve_right (by decide)), qGW, fun z9 => qO (fun z => z9 (.inl z)), fun _ => rfl, fun h => c1 (h.resolve_right (by decide)), fun h => c2 (h.resolve_right (by decide)), fun h t0 => c3 (h.resolve_right (by decide)) (fun z => t0 (.inl z)), fun h => c4 (h.resolve_right (by decide)), fun h t0 => c5 (h.resolve_right (by decide)) (fun z => t0 (.inl z)), fun h => c6 (h.resolve_right (by decide)), fun h => c7 (h.resolve_right (by decide)), fun h => c8 (h.resolve_right (by decide))⟩ _ rfl
        apply RelH.op2
        · intro L f u K hN hS hK
          simp only [puts, Act.put, List.setIfInBounds_toArray, List.set_cons_zero, List.set_cons_succ, upd, Nat.reduceEqDiff, ↓reduceIte, if_true, if_false] at hK ⊢
          have HS9 := Lib.hid hS
          obtain ⟨qR, qH, qC, qC1, qGW, qO, c0, c1, c2, c3, c4, c5, c6, c7, c8⟩ := hS
          have e0 := c0 (hN.out.2 0 (by decide +kernel))
          have qH1 := qH (hN.out.1 8 (by decide +kernel))
          have X_2 := qH1.cells 2 _ rfl
          clear qH qC qC1 qO c0 c1 c2 c3 c4 c5 c6 c7 c8
          go_simp
          obtain ⟨qR, qH, qC, qC1, qGW, qO, c0, c1, c2, c3, c4, c5, c6, c7, c8⟩ := HS9.out
          exact hK.out _ _ ⟨qR, fun z9 => qH (fun z => z9 (.inl z)), fun z9 => qC (fun z => z9 (.inl z)), fun z8 => qC1 (z8.resolve_right (by decide)), qGW, fun z9 => qO (fun z => z9 (.inl z)), fun h => c0 (h.resolve_right (by decide)), fun _ => rfl, fun h => c2 (h.resolve_right (by decide)), fun h t0 => c3 (h.resolve_right (by decide)) (fun z => t0 (.inl z)), fun h => c4 (h.resolve_right (by decide)), fun h t0 => c5 (h.resolve_right (by decide)) (fun z => t0 (.inl z)), fun h => c6 (h.resolve_right (by decide)), fun h => c7 (h.resolve_right (by decide)), fun h => c8 (h.resolve_right (by decide))⟩ _ (by simp only [e0])
        apply RelH.op2
        · intro L f u K hN hS hK
          simp only [puts, Act.put, List.setIfInBounds_toArray, List.set_cons_zero, List.set_cons_succ, upd, Nat.reduceEqDiff, ↓reduceIte, if_true, if_false] at hK ⊢
          have HS9 := Lib.hid hS
          obtain ⟨qR, qH, qC, qC1, qGW, qO, c0, c1, c2, c3, c4, c5, c6, c7, c8⟩ := hS
          clear qH qC qC1 qO c0 c1 c2 c3 c4 c5 c6 c7 c8
          go_simp
          obtain ⟨qR, qH, qC, qC1, qGW, qO, c0, c1, c2, c3, c4, c5, c6, c7, c8⟩ := HS9.out
          exact hK.out _ _ ⟨qR, fun z9 => qH (fun z => z9 (.inl z)), fun z9 => qC (fun z => z9 (.inl z)), fun z8 => qC1 (z8.resolve_right (by decide)), qGW, fun z9 => qO (fun z => z9 (.inl z)), fun h => c0 (h.resolve_right (by decide)), fun h => c1 (h.resolve_right (by decide)), fun _ => rfl, fun h t0 => c3 (h.resolve_right (by decide)) (fun z => t0 (.inl z)), fun h => c4 (h.resolve_right (by decide)), fun h t0 => c5 (h.resolve_right (by decide)) (fun z => t0 (.inl z)), fun h => c6 (h.resolve_right (by decide)), fun h => c7 (h.resolve_right (by decide)), fun h => c8 (h.resolve_right (by decide))⟩ _ rfl
        apply RelH.op2
        · intro L f u K hN hS hK
          simp only [puts, Act.put, List.setIfInBounds_toArray, List.set_cons_zero, List.set_cons_succ, upd, Nat.reduceEqDiff, ↓reduceIte, if_true, if_false] at hK ⊢
          have HS9 := Lib.hid hS
          obtain ⟨qR, qH, qC, qC1, qGW, qO, c0, c1, c2, c3, c4, c5, c6, c7, c8⟩ := hS
          have hT := lst_at u [Value.int .i64 0, Value.int .i64 500, Value.int .i64 501] 3 (g := u.heap.size) rfl
          have hpu : p < u.heap.size := by have := qR.there; omega
          clear qH qC qC1 qO c0 c1 c2 c3 c4 c5 c6 c7 c8
          go_simp
          obtain ⟨qR, qH, qC, qC1, qGW, qO, c0, c1, c2, c3, c4, c5, c6, c7, c8⟩ := HS9.out
          exact hK.out _ _ ⟨qR.alloc _, fun z9 => (qH (fun z => z9 (.inl z))).alloc _, fun z9 => (qC (fun z => z9 (.inl z))).alloc _, fun z8 => (qC1 (z8.resolve_right (by decide))).alloc _, grown_trans qGW (grown_alloc _ _ _), fun z9 => own_keep (qO (fun z => z9 (.inl z))) (al (Below.refl _ _)), fun h => c0 (h.resolve_right (by decide)), fun h => c1 (h.resolve_right (by decide)), fun h => c2 (h.resolve_right (by decide)), fun _ _ => ⟨_, rfl, by omega, hT⟩, fun h => c4 (h.resolve_right (by decide)), fun h t0 => absurd (h.resolve_right (by decide)) (hN.out.1 5 (by decide +kernel)), fun h => absurd (h.resolve_right (by decide)) (hN.out.1 6 (by decide +kernel)), fun h => c7 (h.resolve_right (by decide)), fun h => absurd (h.resolve_right (by decide)) (hN.out.1 8 (by decide +kernel))⟩ _ rfl
        apply RelH.op2
        · intro L f u K hN hS hK
          simp only [puts, Act.put, List.setIfInBounds_toArray, List.set_cons_zero, List.set_cons_succ, upd, Nat.reduceEqDiff, ↓reduceIte, if_true, if_false] at hK ⊢
          have HS9 := Lib.hid hS
          obtain ⟨qR, qH, qC, qC1, qGW, qO, c0, c1, c2, c3, c4, c5, c6, c7, c8⟩ := hS
          have e2 := c2 (hN.out.2 2 (by decide +kernel))
          obtain ⟨gl, e3, h3, T⟩ := c3 (hN.out.2 3 (by decide +kernel)) (hN.out.1 4 (by decide +kernel))
          have HCON := Lib.hid (among_d B zs p K1 u gl 3 [0, 500, 501] (qC (hN.out.1 4 (by decide +kernel))) (by omega) T h3 (by simp) (by simp))
          clear qH qC qC1 qO c0 c1 c2 c3 c4 c5 c6 c7 c8
          go_simp
          go_at_call 45
          refine HCON.out.mono ?_
          rintro e uw1 ⟨m, hm, rfl, C9, G⟩
          have hm2 : 0 ≤ m ∧ m ≤ 501 := by simp at hm; omega
          go_wp2_with fail
          obtain ⟨qR, qH, qC, qC1, qGW, qO, c0, c1, c2, c3, c4, c5, c6, c7, c8⟩ := HS9.out
          exact hK.out _ _ ⟨qR.went G (by omega), fun z9 => (qH (fun z => z9 (.inl z))).went G (by omega), fun z9 => (z9 (by simp)).elim, fun _ => C9, grown_trans qGW G, fun z9 => own_grown (qO (fun z => z9 (.inl z))) G (fun k hk => by injection hk with hk; omega), fun h => c0 (h.resolve_right (by decide)), fun h => c1 (h.resolve_right (by decide)), fun h => c2 (h.resolve_right (by decide)), fun h t0 => (t0 (by simp)).elim, fun _ => ⟨m, rfl, hm2.1, hm2.2⟩, fun h t0 => absurd (h.resolve_right (by decide)) (hN.out.1 5 (by decide +kernel)), fun h => absurd (h.resolve_right (by decide)) (hN.out.1 6 (by decide +kernel)), fun h => c7 (h.resolve_right (by decide)), fun h => absurd (h.resolve_right (by decide)) (hN.out.1 8 (by decide +kernel))⟩ _ (by simp only [e2, e3])
        apply RelH.op2
        · intro L f u K hN hS hK
          simp only [puts, Act.put, List.setIfInBounds_toArray, List.set_cons_zero, List.set_cons_succ, upd, Nat.reduceEqDiff, ↓reduceIte, if_true, if_false] at hK ⊢
          have HS9 := Lib.hid hS
          obtain ⟨qR, qH, qC, qC1, qGW, qO, c0, c1, c2, c3, c4, c5, c6, c7, c8⟩ := hS
          obtain ⟨m, e4, m0, m1⟩ := c4 (hN.out.2 4 (by decide +kernel))
          have hX := Cb.new u [.int .i64 m] 3 (g := u.heap.size) rfl
          clear qH qC qC1 qO c0 c1 c2 c3 c4 c5 c6 c7 c8
          go_simp
          obtain ⟨qR, qH, qC, qC1, qGW, qO, c0, c1, c2, c3, c4, c5, c6, c7, c8⟩ := HS9.out
          exact hK.out _ _ ⟨qR.alloc _, fun z9 => (qH (fun z => z9 (.inl z))).alloc _, fun z9 => (qC (fun z => z9 (.inl z))).alloc _, fun z8 => (qC1 (z8.resolve_right (by decide))).alloc _, grown_trans qGW (grown_alloc _ _ _), fun z9 => own_keep (qO (fun z => z9 (.inl z))) (al (Below.refl _ _)), fun h => c0 (h.resolve_right (by decide)), fun h => c1 (h.resolve_right (by decide)), fun h => c2 (h.resolve_right (by decide)), fun h t0 => (t0 (.inl (hN.out.2 4 (by decide +kernel)))).elim, fun h => c4 (h.resolve_right (by decide)), fun _ _ => ⟨_, m, rfl, ⟨m0, m1⟩, hX⟩, fun h => absurd (h.resolve_right (by decide)) (hN.out.1 6 (by decide +kernel)), fun h => c7 (h.resolve_right (by decide)), fun h => absurd (h.resolve_right (by decide)) (hN.out.1 8 (by decide +kernel))⟩ _ (by simp only [e4])
        apply RelH.op2
        · intro L f u K hN hS hK
          simp only [puts, Act.put, List.setIfInBounds_toArray, List.set_cons_zero, List.set_cons_succ, upd, Nat.reduceEqDiff, ↓reduceIte, if_true, if_false] at hK ⊢
          have HS9 := Lib.hid hS
          obtain ⟨qR, qH, qC, qC1, qGW, qO, c0, c1, c2, c3, c4, c5, c6, c7, c8⟩ := hS
          have e1 := c1 (hN.out.2 1 (by decide +kernel))
          obtain ⟨h9, m, e5, hm, X⟩ := c5 (hN.out.2 5 (by decide +kernel)) (hN.out.1 6 (by decide +kernel))
          have qO1 := qO (hN.out.1 6 (by decide +kernel))
          have hge : ∀ k, (Value.slice A1 S9.length kA).ownBlock = some k → gH < k := fun k hk => by have := own_ge qO1 k hk; omega
          have hsz : gH < u.heap.size := (qH (hN.out.1 8 (by decide +kernel))).there
          refine step_own rfl (.tmp 78) (.tmp 82) 39 rfl (gH + 1) 3 i0 _ 1 8 Tryd.underlying39 hi0 hz0 HI1.out HI.out rfl (by decide) (.slice A1 S9.length kA) S9.length (iv S9) e1 qO1 ⟨h9, 0, none⟩ 1 1 [.int .i64 m] e5 rfl (cb_news X) (DStack.one1 m) (by unfold maxLen; omega) (by omega) (by omega) ?_
          intro v2 uw1 O2 hg2 _
          obtain ⟨A2, kB, rfl⟩ := own_form O2
          exact hK.out (.slice A2 (S9.length + 1) kB) uw1 ⟨Cb.kept qR hg2 (fun k hk => by have := hge k hk; omega), fun z9 => Cb.kept (qH (fun z => z9 (.inl z))) hg2 (fun k hk => hge k hk), fun z9 => (z9 (.inl (hN.out.2 4 (by decide +kernel)))).elim, fun z8 => (qC1 (z8.resolve_right (by decide))).grown hg2 (fun k hk => by have := hge k hk; omega), gw_grown qGW hg2 (fun k hk => by have := hge k hk; omega), fun z9 => (z9 (by simp)).elim, fun h => c0 (h.resolve_right (by decide)), fun h => c1 (h.resolve_right (by decide)), fun h => c2 (h.resolve_right (by decide)), fun h t0 => (t0 (.inl (hN.out.2 4 (by decide +kernel)))).elim, fun h => c4 (h.resolve_right (by decide)), fun h t0 => (t0 (by simp)).elim, fun _ => ⟨A2, kB, m, rfl, hm, O2⟩, fun h => c7 (h.resolve_right (by decide)), fun h => absurd (h.resolve_right (by decide)) (hN.out.1 8 (by decide +kernel))⟩ _ rfl
        apply RelH.op2
        · intro L f u K hN hS hK
          simp only [puts, Act.put, List.setIfInBounds_toArray, List.set_cons_zero, List.set_cons_succ, upd, Nat.reduceEqDiff, ↓reduceIte, if_true, if_false] at hK ⊢
          have HS9 := Lib.hid hS
          obtain ⟨qR, qH, qC, qC1, qGW, qO, c0, c1, c2, c3, c4, c5, c6, c7, c8⟩ := hS
          clear qH qC qC1 qO c0 c1 c2 c3 c4 c5 c6 c7 c8
          go_simp
          obtain ⟨qR, qH, qC, qC1, qGW, qO, c0, c1, c2, c3, c4, c5, c6, c7, c8⟩ := HS9.out
          exact hK.out _ _ ⟨qR, fun z9 => qH (fun z => z9 (.inl z)), fun z9 => qC (fun z => z9 (.inl z)), fun z8 => qC1 (z8.resolve_right (by decide)), qGW, fun z9 => qO (fun z => z9 (.inl z)), fun h => c0 (h.resolve_right (by decide)), fun h => c1 (h.resolve_right (by decide)), fun h => c2 (h.resolve_right (by decide)), fun h t0 => c3 (h.resolve_right (by decide)) (fun z => t0 (.inl z)), fun h => c4 (h.resolve_right (by decide)), fun h t0 => c5 (h.resolve_right (by decide)) (fun z => t0 (.inl z)), fun h => c6 (h.resolve_right (by decide)), fun _ => rfl, fun h => c8 (h.resolve_right (by decide))⟩ _ rfl
        apply RelH.op2
        · intro L f u K hN hS hK
          simp only [puts, Act.put, List.setIfInBounds_toArray, List.set_cons_zero, List.set_cons_succ, upd, Nat.reduceEqDiff, ↓reduceIte, if_true, if_false] at hK ⊢
          have HS9 := Lib.hid hS
          obtain ⟨qR, qH, qC, qC1, qGW, qO, c0, c1, c2, c3, c4, c5, c6, c7, c8⟩ := hS
          obtain ⟨A2, kB, m, e6, hm, O2⟩ := c6 (hN.out.2 6 (by decide +kernel))
          have e7 := c7 (hN.out.2 7 (by decide +kernel))
          have qH1 := qH (hN.out.1 8 (by decide +kernel))
          have X_2 := qH1.cells 2 _ rfl
          have X_f2 := qH1.free 2 (by simp)
          clear qH qC qC1 qO c0 c1 c2 c3 c4 c5 c6 c7 c8
          go_simp
          obtain ⟨qR, qH, qC, qC1, qGW, qO, c0, c1, c2, c3, c4, c5, c6, c7, c8⟩ := HS9.out
          exact hK.out undef _ ⟨qR.far (k := gH) (by omega) 2 _, fun z9 => (z9 (by simp)).elim, fun z9 => (z9 (.inl (hN.out.2 4 (by decide +kernel)))).elim, fun z8 => (qC1 (z8.resolve_right (by decide))).set (g := gH) (by omega) (by omega) 2 _, grown_set qGW (g := gH) (by omega) 2 _, fun z9 => (z9 (.inl (hN.out.2 6 (by decide +kernel)))).elim, fun h => c0 (h.resolve_right (by decide)), fun h => c1 (h.resolve_right (by decide)), fun h => c2 (h.resolve_right (by decide)), fun h t0 => (t0 (.inl (hN.out.2 4 (by decide +kernel)))).elim, fun h => c4 (h.resolve_right (by decide)), fun h t0 => (t0 (.inl (hN.out.2 6 (by decide +kernel)))).elim, fun h => (let ⟨A3, k3, m3, e1, e2, O3⟩ := (c6 (h.resolve_right (by decide))); ⟨A3, k3, m3, e1, e2, own_low O3 (by omega) 2 _⟩), fun h => c7 (h.resolve_right (by decide)), fun _ => ⟨A2, kB, m, hm, own_low O2 (by omega) 2 _, by simpa using qH1.set 2 (.slice A2 (S9.length + 1) kB)⟩⟩ _ (by simp only [e6, e7])
        exact RelH.done
      intro L f V9 hL hS
      simp only [puts, Act.put, List.setIfInBounds_toArray, List.set_cons_zero, List.set_cons_succ]
      obtain ⟨qR, qH, qC, qC1, qGW, qO, c0, c1, c2, c3, c4, c5, c6, c7, c8⟩ := hS
      obtain ⟨A2, kB, m, hm, O2, H2⟩ := c8 (hL 8 (by decide))
      have C2 := qC1 (hL 4 (by decide))
      have HP := Lib.hid (show Hp B zs p (K1 + 2) w gR gH id gr cv A2 kB (S9 ++ [m]) V9 from ⟨C2, qGW, qR, by simpa using H2, by simpa [iv] using O2, o0, o1, o2, DStack.mem_app HBD.out hm⟩)
      obtain ⟨L9, hL9⟩ : ∃ L9, S9 ++ [m] = L9 := ⟨_, rfl⟩
      have HL9 := Lib.hid (show L9.length ≤ 6 by rw [← hL9]; simp; omega)
      rw [hL9] at HP
      clear hL9
      clear c0 c1 c2 c3 c4 c5 c6 c7 c8 hL qO qC qC1 qH C2 H2 O2 qGW qR
      obtain ⟨h0, h1, h2, h3⟩ := HP.out.cellsH
      obtain ⟨f0, f1, f2⟩ := HP.out.freeH
      go_upto_region 24 with fail
      clear h0 h1 h2 h3 f0 f1 f2
      obtain ⟨h0, h1, h2, h3⟩ := HP.out.cellsH
      have r0 := HP.out.R.cells 0 _ rfl
      have r1 := HP.out.R.cells 1 _ rfl
      have r2 := HP.out.R.cells 2 _ rfl
      have r3 := HP.out.R.cells 3 _ rfl
      have f0 := HP.out.R.free 0 (by simp)
      have f1 := HP.out.R.free 1 (by simp)
      have f2 := HP.out.R.free 2 (by simp)
      have f3 := HP.out.R.free 3 (by simp)
      have hne := HP.out.o2
      go_wp2
      obtain ⟨q0, q1, q2, q3, hfin⟩ := HP.out.fin
      exact bodyPost_ret (v := (⟨id, gr, ⟨A2, kB, L9⟩, cv⟩ : HeapS.R).val) (by simp [HeapS.R.val, results, Tryd.results54, go_sem, q0, q1, q2, q3]) rfl ⟨_, (by show L9.length ≤ 30; have := HL9.out; omega), rfl, hfin.1, hfin.2.1.le (by have := HK2.out; omega), hfin.2.2⟩
    by_cases z3 : z = 3
    · subst z3
      clear z0 z1 z2
      have HA0 := HP.out.alloc (.cells #[] 3)
      obtain ⟨h0, h1, h2, h3⟩ := HA0.cellsH
      obtain ⟨f0, f1, f2⟩ := HA0.freeH
      have HA := HP.out.fresh
      go_upto_region 20 with fail
      clear h0 h1 h2 h3 f0 f1 f2 HA0
      obtain ⟨X, hX⟩ : ∃ X, (V3.alloc (.cells #[] 3)).setCell ⟨gH, 2, none⟩ (.slice (some ⟨V3.heap.size, 0, none⟩) 0 0) = X := ⟨_, rfl⟩
      rw [hX] at HA ⊢
      clear hX
      replace HP := Lib.hid HA; clear HA
      obtain ⟨gl, hgl⟩ : ∃ gl, V3.heap.size = gl := ⟨_, rfl⟩
      rw [hgl] at HP
      clear hgl
      go_wp2_with fail
      go_loopw [9] (fun kv wr => ∃ (k : Nat) (A1 : Option Addr) (c1 : Nat) (L : List Int), k ≤ 13 ∧ kv = .int .i64 k ∧ Hid (L.length = k) ∧ Hid (Hp B zs p (K + 50 + 2 * k) w gR gH id gr cv A1 c1 L wr)) (fun kv _ => 13 - (intOf kv).toNat)
      case atStart => exact ⟨0, _, _, [], by omega, rfl, Lib.hid rfl, Lib.hid (HP.out.le (by omega))⟩
      case round =>
        clear HP
        obtain ⟨k, A1, c1, L, hk, rfl, HL, HP⟩ := hrel
        go_wp2_with fail
        refine (HP.out.pick (by omega) 2 (by omega) (by omega)).mono ?_
        rintro e V4 ⟨x, hx, rfl, hp1⟩
        replace HP := Lib.hid hp1; clear hp1
        have e1 : IntKind.i64.wrap (12 + x) = 12 + x := IntWalk.i64_in _ (by omega)
        by_cases hgo : (k : Int) < 12 + x
        · have d1 : decide ((k : Int) < 12 + x) = true := decide_eq_true hgo
          have e2 : IntKind.i64.wrap (30 - (k : Int)) = 30 - k := IntWalk.i64_in _ (by omega)
          have e3 : IntKind.i64.wrap ((k : Int) + 1) = k + 1 := IntWalk.i64_in _ (by omega)
          have hk2 : k < 13 := by omega
          have hll : L.length < 13 := by rw [HL.out]; exact hk2
          obtain ⟨_, _, h2, _⟩ := HP.out.cellsH
          have hlt := HP.out.lt
          go_wp2_with (at_builtin; go_must (refine wpList_append_own _ rfl _ _ 39 rfl (gH + 1) 3 i0 _ 1 8 Tryd.underlying39 hi0 hz0 HI1.out HI.out rfl (by decide) _ L.length _ rfl (HP.out.O.alloc _) ⟨V4.heap.size, 0, none⟩ 1 1 [.int .i64 ((30 - (k : Int)))] rfl rfl (DStack.new1 V4 ((30 - (k : Int)))) (DStack.one1 ((30 - (k : Int)))) (by unfold maxLen; omega) (by omega) (by rw [size_alloc']; omega) ?_; intro v' w10 hown1 hgrow hnil; obtain ⟨A1, c1, rfl⟩ := own_form hown1; have HM := HP.out.mid hgrow; have m2 := HM.2.2.2.cells 2 _ rfl; have mf := HM.2.2.2.free 2 (by simp)))
          have HA := HP.out.app hgrow hown1 (show 0 ≤ (30 - (k : Int)) ∧ (30 - (k : Int)) ≤ 501 by omega)
          clear HM m2 mf hnil hown1 hgrow
          obtain ⟨X, hX⟩ : ∃ X, w10.setCell ⟨gH, 2, none⟩ (.slice A1 (L.length + 1) c1) = X := ⟨_, rfl⟩
          have hXs : w10.heap.size = X.heap.size := by rw [← hX, size_set']
          rw [hX] at HA ⊢
          clear hX
          replace HP := Lib.hid HA; clear HA
          go_wp2
          go_roundw
          case rel => exact ⟨k + 1, A1, c1, L ++ [30 - (k : Int)], by omega, rfl, Lib.hid (by rw [List.length_append, HL.out]; rfl), Lib.hid (HP.out.le (by omega))⟩
          case measure => simp [intOf]; omega
        · have d1 : decide ((k : Int) < 12 + x) = false := decide_eq_false hgo
          have hk3 : L.length ≤ 13 := by rw [HL.out]; exact hk
          clear hgo
          go_upto_region 24 with fail
          obtain ⟨h0, h1, h2, h3⟩ := HP.out.cellsH
          have r0 := HP.out.R.cells 0 _ rfl
          have r1 := HP.out.R.cells 1 _ rfl
          have r2 := HP.out.R.cells 2 _ rfl
          have r3 := HP.out.R.cells 3 _ rfl
          have f0 := HP.out.R.free 0 (by simp)
          have f1 := HP.out.R.free 1 (by simp)
          have f2 := HP.out.R.free 2 (by simp)
          have f3 := HP.out.R.free 3 (by simp)
          have hne := HP.out.o2
          go_wp2
          obtain ⟨q0, q1, q2, q3, hfin⟩ := HP.out.fin
          exact bodyPost_ret (v := (⟨id, gr, ⟨A1, c1, L⟩, cv⟩ : HeapS.R).val) (by simp [HeapS.R.val, results, Tryd.results54, go_sem, q0, q1, q2, q3]) rfl ⟨_, (by show L.length ≤ 30; omega), rfl, hfin.1, hfin.2.1.le (by omega), hfin.2.2⟩
    · have b0 : (z == 0) = false := by simpa using z0
      have b1 : (z == 1) = false := by simpa using z1
      have b2 : (z == 2) = false := by simpa using z2
      have b3 : (z == 3) = false := by simpa using z3
      have d0 : decide (z = 0) = false := decide_eq_false z0
      have d1 : decide (z = 1) = false := decide_eq_false z1
      have d2 : decide (z = 2) = false := decide_eq_false z2
      have d3 : decide (z = 3) = false := decide_eq_false z3
      go_upto_region 24 with fail
      obtain ⟨h0, h1, h2, h3⟩ := HP.out.cellsH
      have r0 := HP.out.R.cells 0 _ rfl
      have r1 := HP.out.R.cells 1 _ rfl
      have r2 := HP.out.R.cells 2 _ rfl
      have r3 := HP.out.R.cells 3 _ rfl
      have f0 := HP.out.R.free 0 (by simp)
      have f1 := HP.out.R.free 1 (by simp)
      have f2 := HP.out.R.free 2 (by simp)
      have f3 := HP.out.R.free 3 (by simp)
      have hne := HP.out.o2
      go_wp2
      obtain ⟨q0, q1, q2, q3, hfin⟩ := HP.out.fin
      exact bodyPost_ret (v := (⟨id, gr, ⟨A1, c1, L⟩, cv⟩ : HeapS.R).val) (by simp [HeapS.R.val, results, Tryd.results54, go_sem, q0, q1, q2, q3]) rfl ⟨_, (by simp; omega), rfl, hfin.1, hfin.2.1.le (by omega), hfin.2.2⟩
end Go.Proofs.YtokgncbcknpfiaaDoor.DHeap
