/- The draw of a list of heaps. Made by tools/mk_dheaps.py. -/
import Derived.Deep.Cut
import Derived.Deep.CutBlock
import Derived.Deep.CutRange
import Derived.Deep.DeepCutAuto
import Derived.Test.YtokgncbcknpfiaaDoorDHeap
import Derived.Test.YtokgncbcknpfiaaDoorDHeaps0
namespace Go.Proofs.YtokgncbcknpfiaaDoor.DHeaps
open Go.RowKit Go.Proofs.YtokgncbcknpfiaaDoor.Mem Go.Proofs.YtokgncbcknpfiaaDoor.Base Go.Proofs.YtokgncbcknpfiaaDoor.Draw Go.Proofs.YtokgncbcknpfiaaDoor.Boxes Go.Proofs.YtokgncbcknpfiaaDoor.Keep Go.Proofs.YtokgncbcknpfiaaDoor.Dr Go.Proofs.YtokgncbcknpfiaaDoor.SInt Go.Proofs.YtokgncbcknpfiaaDoor.Nest Go.Proofs.YtokgncbcknpfiaaDoor.HeapS Go.Proofs.YtokgncbcknpfiaaDoor.DHeap0 Go.Proofs.YtokgncbcknpfiaaDoor.DHeaps0 Go.Proofs.YtokgncbcknpfiaaDoor.DStack
set_option linter.unusedVariables false
set_option linter.unusedSimpArgs false
set_option maxRecDepth 100000
def Lot (B : Nat) (zs : List Int) (p K : Nat) (w : World) (e : Ending) (V : World) : Prop :=
  ∃ (g c : Nat) (l : List R), l.length ≤ 20 ∧ e = .returned (.slice (some ⟨g, 0, none⟩) l.length c) ∧ Lt B zs p K w (some ⟨g, 0, none⟩) c l V
set_option maxHeartbeats 8000000 in
theorem heaps_d (B : Nat) (zs : List Int) (p K : Nat) (w : World) (C : Cu B zs p K w) (hK : K ≤ 500000000) (hp : p < w.heap.size) :
    Calls Tryd.prog 23 #[.pointer (some ⟨p, 0, none⟩)] w (Lot B zs p (K + 2000) w) := by
  obtain ⟨i0, hi0, hz0, hz1, hz2⟩ := info_parts info_H
  have HI := Lib.hid hz2; clear hz2
  have HI1 := Lib.hid hz1; clear hz1
  go_enter Tryd.func23, Tryd.ntmps23
  go_wp2_with fail
  have HL := Lib.hid (Lt.start C hp)
  obtain ⟨g0, hg0⟩ : ∃ g0, w.heap.size = g0 := ⟨_, rfl⟩
  refine (HL.out.pick (by omega) 8 (by omega) (by omega)).mono ?_
  rintro e V1 ⟨n0, hn0, rfl, hp1⟩
  replace HL := Lib.hid hp1; clear hp1
  rw [hg0] at HL ⊢
  clear hg0 C
  obtain ⟨m0, rfl⟩ : ∃ m : Nat, n0 = m := ⟨n0.toNat, by omega⟩
  go_wp2_with fail
  go_loopw [3, 4, 5] (fun oo ii nn wr => ∃ (n g c : Nat) (i : Int) (l : List R), n ≤ 8 ∧ nn = .int .i64 n ∧ ii = .int .i64 i ∧ -100 ≤ i - 2 * n ∧ i + 2 * n ≤ 100 ∧ oo = .slice (some ⟨g, 0, none⟩) l.length c ∧ l.length + n ≤ 8 ∧ Hid (Lt B zs p (K + 900 - 104 * n) w (some ⟨g, 0, none⟩) c l wr)) (fun _ _ nn _ => (intOf nn).toNat)
  case atStart => exact ⟨m0, _, _, 0, [], by omega, rfl, rfl, by omega, by omega, rfl, by simp <;> omega, Lib.hid (HL.out.le (by omega))⟩
  case round =>
    clear HL hn0
    obtain ⟨n, g, c, i, l, hn, rfl, rfl, i0', i1', rfl, hl, HL⟩ := hrel
    by_cases hgo : 0 < n
    · have d1 : decide ((0 : Int) < n) = true := decide_eq_true (by omega)
      have d3 : decide (0 < n) = true := decide_eq_true hgo
      have e1 : IntKind.i64.wrap (i + 1) = i + 1 := IntWalk.i64_in _ (by omega)
      go_wp2_with fail
      refine (HL.out.pick (by omega) 2 (by omega) (by omega)).mono ?_
      rintro e V2 ⟨x, hx, rfl, hp1⟩
      replace HL := Lib.hid hp1; clear hp1
      have e2 : IntKind.i64.wrap (i + 1 + x) = i + 1 + x := IntWalk.i64_in _ (by omega)
      go_wp2_with fail
      refine (HL.out.pick (by omega) 120 (by omega) (by omega)).mono ?_
      rintro e V3 ⟨y, hy, rfl, hp1⟩
      replace HL := Lib.hid hp1; clear hp1
      have e3 : y.tdiv 119 = y / 119 := Int.tdiv_eq_ediv_of_nonneg (by omega)
      have e4 : IntKind.i64.wrap (y / 119) = y / 119 := IntWalk.i64_in _ (by omega)
      have e5 : IntKind.i64.wrap (i + 1 + x - y / 119) = i + 1 + x - y / 119 := IntWalk.i64_in _ (by omega)
      have hy2 : 0 ≤ y / 119 ∧ y / 119 ≤ 1 := by omega
      obtain ⟨i2, hi2⟩ : ∃ i2, i + 1 + x - y / 119 = i2 := ⟨_, rfl⟩
      have hb1 : -100 ≤ i2 - 2 * ((n : Int) - 1) := by omega
      have hb2 : i2 + 2 * ((n : Int) - 1) ≤ 100 := by omega
      replace e5 := e5.trans hi2
      clear hi2 hy2
      go_wp2_with fail
      refine (DHeap.heap_d B zs p _ V3 HL.out.C (by omega) i2).mono ?_
      rintro e V4 ⟨X9, hXn, he, hXr, C4, G4⟩
      obtain rfl : e = .returned (.agg #[.int .i64 X9.f0, .int .i64 X9.f1, .slice X9.f2.A X9.f2.ls.length X9.f2.cap, .bool X9.f3]) := he
      replace HL := Lib.hid (HL.out.went C4 G4); clear C4 G4
      obtain ⟨v, hv⟩ : ∃ v, V4 = v := ⟨_, rfl⟩
      rw [hv] at HL hXr ⊢
      clear hv
      go_wp2_with (at_builtin; go_must (refine wpList_append_own _ rfl _ _ 24 rfl w.heap.size 41 i0 _ 4 48 Tryd.underlying24 hi0 hz0 HI1.out HI.out rfl (by decide) _ l.length _ rfl (HL.out.alloc _).O ⟨v.heap.size, 0, none⟩ 1 1 (R.cells X9) rfl rfl (new4 v X9 rfl) (one4 X9) (by unfold maxLen; omega) (by omega) (by rw [size_alloc']; exact Nat.le_succ_of_le HL.out.GW.size) ?_; intro v' w10 hown1 hgrow hnil))
      obtain ⟨g2, c2, rfl⟩ := own_some0 hown1 (fun e => by have := (hnil.1 e).2; omega)
      have HA := HL.out.app hXr hXn hgrow hown1
      clear hown1 hgrow hnil hXr hXn HL
      have hLx : (l ++ [X9]).length = l.length + 1 := by simp
      have HLX := Lib.hid hLx; clear hLx
      have e6 : IntKind.i64.wrap ((n : Int) - 1) = (n : Int) - 1 := IntWalk.i64_in _ (by omega)
      go_wp2
      go_roundw
      case rel => exact ⟨n - 1, g2, c2, i2, l ++ [X9], by omega, by rw [show ((n - 1 : Nat) : Int) = (n : Int) - 1 by omega] <;> rfl, rfl, by omega, by omega, by simp, by rw [HLX.out]; omega, Lib.hid (HA.le (by omega))⟩
      case measure => simp [intOf]; omega
    · have d1 : decide ((0 : Int) < n) = false := decide_eq_false (by omega)
      have d3 : decide (0 < n) = false := decide_eq_false hgo
      replace HL := Lib.hid (HL.out.le (K' := K + 900) (by omega))
      have hl8 : l.length ≤ 8 := by omega
      clear hgo hl
      go_wp2_with fail
      refine (HL.out.one (by omega) 24 (by omega) (by omega)).mono ?_
      rintro e V2 ⟨q, rfl, hp1⟩
      replace HL := Lib.hid hp1; clear hp1
      cases q
      · go_wp2
        go_ret
        exact ⟨g, c, l, by omega, rfl, HL.out.le (by omega)⟩
      · go_upto_region 10 with fail
        replace HL := Lib.hid HL.out.fresh
        obtain ⟨X, hX⟩ : ∃ X, V2.alloc (.cells #[] 41) = X := ⟨_, rfl⟩
        rw [hX] at HL ⊢
        clear hX
        obtain ⟨gl, hgl⟩ : ∃ gl, V2.heap.size = gl := ⟨_, rfl⟩
        rw [hgl] at HL ⊢
        clear hgl hl8
        go_wp2_with fail
        go_loopw [3, 6] (fun oo kv wr => ∃ (k g c : Nat) (l : List R), k ≤ 11 ∧ kv = .int .i64 k ∧ oo = .slice (some ⟨g, 0, none⟩) l.length c ∧ Hid (l.length = k) ∧ Hid (Lt B zs p (K + 1000 + 2 * k) w (some ⟨g, 0, none⟩) c l wr)) (fun _ kv _ => 13 - (intOf kv).toNat)
        case atStart => exact ⟨0, _, _, [], by omega, rfl, rfl, Lib.hid rfl, Lib.hid (HL.out.le (by omega))⟩
        case round =>
          clear HL
          obtain ⟨k, g, c, l, hk, rfl, rfl, HN, HL⟩ := hrel
          go_wp2_with fail
          refine (HL.out.pick (by omega) 2 (by omega) (by omega)).mono ?_
          rintro e V3 ⟨x, hx, rfl, hp1⟩
          replace HL := Lib.hid hp1; clear hp1
          have e1 : IntKind.i64.wrap (10 + x) = 10 + x := IntWalk.i64_in _ (by omega)
          by_cases hgo : (k : Int) < 10 + x
          · have d1 : decide ((k : Int) < 10 + x) = true := decide_eq_true hgo
            have e2 : IntKind.i64.wrap ((k : Int) + 1) = k + 1 := IntWalk.i64_in _ (by omega)
            have e3 : (k : Int).tmod 4 = (k : Int) % 4 := Int.tmod_eq_emod_of_nonneg (by omega)
            have e4 : IntKind.i64.wrap ((k : Int) % 4) = (k : Int) % 4 := IntWalk.i64_in _ (by omega)
            have e5 : IntKind.i64.wrap (1 + (k : Int) % 4) = 1 + (k : Int) % 4 := IntWalk.i64_in _ (by omega)
            have hk2 : k ≤ 10 := by omega
            have hll : l.length ≤ 10 := by rw [HN.out]; exact hk2
            obtain ⟨gq, hgq⟩ : ∃ gq, 1 + (k : Int) % 4 = gq := ⟨_, rfl⟩
            replace e5 := e5.trans hgq
            clear hgq
            have hXr : RowOwn (V3.alloc (.cells #[.int .i64 50, .int .i64 20] 3)) (p + 1) (⟨(k : Int) + 1, gq, ⟨some ⟨V3.heap.size, 0, none⟩, 2, [50, 20]⟩, false⟩ : R).f2 := by
              have h0 := HL.out.o0
              have h1 := HL.out.GW.size
              have := World.ownsRow_lit V3 #[.int .i64 50, .int .i64 20] 2 (e := 3) (size := 1) (base := p + 1) (by omega) (by unfold maxLen; omega) rfl
              exact this
            have hXn : (⟨(k : Int) + 1, gq, ⟨some ⟨V3.heap.size, 0, none⟩, 2, [50, 20]⟩, false⟩ : R).f2.ls.length ≤ 30 := by show 2 ≤ 30; omega
            replace HL := Lib.hid (HL.out.alloc (.cells #[.int .i64 50, .int .i64 20] 3))
            go_wp2_with (at_builtin; go_must (refine wpList_append_own _ rfl _ _ 24 rfl w.heap.size 41 i0 _ 4 48 Tryd.underlying24 hi0 hz0 HI1.out HI.out rfl (by decide) _ l.length _ rfl (HL.out.alloc _).O _ 1 1 (R.cells (⟨(k : Int) + 1, gq, ⟨some ⟨V3.heap.size, 0, none⟩, 2, [50, 20]⟩, false⟩ : R)) rfl rfl (new4 (V3.alloc (.cells #[.int .i64 50, .int .i64 20] 3)) (⟨(k : Int) + 1, gq, ⟨some ⟨V3.heap.size, 0, none⟩, 2, [50, 20]⟩, false⟩ : R) (by first | rfl | exact (size_alloc' _ _).symm)) (one4 (⟨(k : Int) + 1, gq, ⟨some ⟨V3.heap.size, 0, none⟩, 2, [50, 20]⟩, false⟩ : R)) (by unfold maxLen; omega) (by omega) (by rw [size_alloc']; exact Nat.le_succ_of_le HL.out.GW.size) ?_; intro v' w10 hown1 hgrow hnil))
            obtain ⟨g2, c2, rfl⟩ := own_some0 hown1 (fun e => by have := (hnil.1 e).2; omega)
            have HA := HL.out.app hXr hXn hgrow hown1
            clear hown1 hgrow hnil hXr hXn HL
            have hLx : (l ++ [(⟨(k : Int) + 1, gq, ⟨some ⟨V3.heap.size, 0, none⟩, 2, [50, 20]⟩, false⟩ : R)]).length = l.length + 1 := by simp
            have HLX := Lib.hid hLx; clear hLx
            go_wp2
            go_roundw
            case rel => exact ⟨k + 1, g2, c2, l ++ [(⟨(k : Int) + 1, gq, ⟨some ⟨V3.heap.size, 0, none⟩, 2, [50, 20]⟩, false⟩ : R)], by omega, rfl, by simp, Lib.hid (by rw [HLX.out, HN.out]), Lib.hid (HA.le (by omega))⟩
            case measure => simp [intOf]; omega
          · have d1 : decide ((k : Int) < 10 + x) = false := decide_eq_false hgo
            have hk3 : l.length ≤ 11 := by rw [HN.out]; exact hk
            go_wp2
            go_ret
            exact ⟨g, c, l, by omega, rfl, HL.out.le (by omega)⟩
end Go.Proofs.YtokgncbcknpfiaaDoor.DHeaps
