/- Heaps: placeFor, HeapFor: the model's and the program's. -/
import Derived.Test.YtokgncbcknpfiaaDoorHeapP
import Derived.Test.YtokgncbcknpfiaaDoorHeapT
namespace Go.Proofs.YtokgncbcknpfiaaDoor.HeapQ
open Go.RowKit Go.Proofs.YtokgncbcknpfiaaDoor.Mem Go.Proofs.YtokgncbcknpfiaaDoor.Base Go.Proofs.YtokgncbcknpfiaaDoor.Within Go.Proofs.YtokgncbcknpfiaaDoor.SInt Go.Proofs.YtokgncbcknpfiaaDoor.Boxes Go.Proofs.YtokgncbcknpfiaaDoor.Keep Go.Proofs.YtokgncbcknpfiaaDoor.Regn Go.Proofs.YtokgncbcknpfiaaDoor.Nest Go.Proofs.YtokgncbcknpfiaaDoor.HeapS Go.Proofs.YtokgncbcknpfiaaDoor.HeapW Go.Proofs.YtokgncbcknpfiaaDoor.Heap Go.Proofs.YtokgncbcknpfiaaDoor.Heap2 Go.Proofs.YtokgncbcknpfiaaDoor.HeapG Go.Proofs.YtokgncbcknpfiaaDoor.HeapP Go.Proofs.YtokgncbcknpfiaaDoor.HeapT
set_option linter.unusedVariables false
set_option maxRecDepth 100000
/-- the best place so far, as the two variables hold it. -/
def At (o : Option Nat) (u v : Value) (n : Nat) : Prop := (o = none ∧ u = .int .i64 0 ∧ v = .bool false) ∨ ∃ b : Nat, o = some b ∧ b < n ∧ u = .int .i64 b ∧ v = .bool true
set_option maxHeartbeats 1600000 in
theorem place_impl (P : Option Addr) (cap : Nat) (l : List R) (g t : Int) (w : World) (hr : Hs w w.heap.size P l) (hrow : ∀ x ∈ l, x.f2.ls.length ≤ 1000) :
    Calls Tryd.prog 40 #[.slice P l.length cap, .int .i64 g, .int .i64 t] w (RPost (pTuple (pick 501 (pl l) g t l.length)) w) := by
  have hn := hr.len
  have HR := Lib.hid hr; clear hr
  have HRW := Lib.hid hrow; clear hrow
  go_enter Tryd.func40, Tryd.ntmps40
  go_wp2
  go_loopw [8, 9, 14] (fun u v i wr => ∃ (k : Nat), k ≤ l.length ∧ i = .int .i64 k ∧ Hid (At (pick 501 (pl l) g t k) u v k) ∧ Below w.heap.size w wr) (fun _ _ i _ => l.length - (intOf i).toNat)
  case atStart => exact ⟨0, Nat.zero_le _, rfl, Lib.hid (.inl ⟨rfl, rfl, rfl⟩), Below.refl _ _⟩
  case round =>
    obtain ⟨k, hk, rfl, HA, HB0⟩ := hrel
    by_cases hlt : k < l.length
    · obtain ⟨x, hx⟩ : ∃ x, l[k] = x := ⟨_, rfl⟩
      obtain ⟨b, o, rfl, hb, h0, h1, h2, h3⟩ := hs_at HR.out HB0 hlt hx
      have hrow := hs_row HR.out hlt hx
      have HRX := Lib.hid hrow.1; clear hrow
      have HNX := Lib.hid (show x.f2.ls.length ≤ 1000 by rw [← hx]; exact HRW.out _ (List.getElem_mem hlt))
      have HX := Lib.hid (pl_x hlt hx); clear hx
      have HL := Lib.hid hlt
      have HPL := Lib.hid (pl_lt hlt)
      rcases HA.out with ⟨hp, rfl, rfl⟩ | ⟨j, hp, hj, rfl, rfl⟩
      · have HP := Lib.hid hp; clear hp
        cases hc : can x.pure g t
        · have HN := Lib.hid (show At (pick 501 (pl l) g t (k + 1)) (.int .i64 0) (.bool false) (k + 1) from .inl ⟨(pick_no HPL.out HX.out hc).trans HP.out, rfl, rfl⟩)
          go_wp2_with fail
          have B := Box.new HB0 [.int .i64 x.f0, .int .i64 x.f1, .slice x.f2.A x.f2.ls.length x.f2.cap, .bool x.f3] 41 (g := wr.heap.size) rfl
          replace HB0 := be HB0 (al (Below.refl _ _) (o := (.cells #[.int .i64 x.f0, .int .i64 x.f1, .slice x.f2.A x.f2.ls.length x.f2.cap, .bool x.f3] 41)))
          generalize (wr.alloc (.cells #[.int .i64 x.f0, .int .i64 x.f1, .slice x.f2.A x.f2.ls.length x.f2.cap, .bool x.f3] 41)) = W1 at B HB0 ⊢
          have B_0 := B.cells 0 _ rfl
          have B_1 := B.cells 1 _ rfl
          have B_2 := B.cells 2 _ rfl
          have B_3 := B.cells 3 _ rfl
          have B_f0 := B.free 0 (by simp)
          have B_f1 := B.free 1 (by simp)
          have B_f2 := B.free 2 (by simp)
          have B_f3 := B.free 3 (by simp)
          have B_t := B.there
          clear h0 h1 h2 h3
          refine wp_region_text (fun w' => Box (wr.heap.size) [.int .i64 x.f0, .int .i64 x.f1, .slice x.f2.A x.f2.ls.length x.f2.cap, .bool x.f3] w w' ∧ Below w.heap.size w w') (by kernel_rfl) (by kernel_rfl) ⟨B.drew, be HB0 (Below.refl _ _).drew⟩ ?_
          clear B_0 B_1 B_2 B_3 B_f0 B_f1 B_f2 B_f3 B_t
          iterate 20 (
            apply SeqH.one
            · intro uw K hS hK
              obtain ⟨qB, qHB0⟩ := hS
              have qB_0 := qB.cells 0 _ rfl
              have qB_1 := qB.cells 1 _ rfl
              have qB_2 := qB.cells 2 _ rfl
              have qB_3 := qB.cells 3 _ rfl
              first
                | (go_simp; exact hK.out _ ⟨qB, qHB0⟩)
                | (go_simp; go_at_call 30; (with_reducible refine (can_impl x g t _ (rd_keep HRX.out qB.below) HNX.out).mono ?_); rintro e uw1 ⟨rfl, hv⟩; rw [hc]; go_wp2_with fail; exact hK.out _ ⟨qB.more hv, be qHB0 hv⟩)
            try simp only [Act.put, List.setIfInBounds_toArray, List.set_cons_zero, List.set_cons_succ])
          refine SeqH.end' rfl ?_
          intro v2 hS
          clear B HB0
          obtain ⟨B, HB0⟩ := hS
          have B_0 := B.cells 0 _ rfl
          have B_1 := B.cells 1 _ rfl
          have B_2 := B.cells 2 _ rfl
          have B_3 := B.cells 3 _ rfl
          have B_f0 := B.free 0 (by simp)
          have B_f1 := B.free 1 (by simp)
          have B_f2 := B.free 2 (by simp)
          have B_f3 := B.free 3 (by simp)
          have B_t := B.there
          go_wp2
          go_roundw
          case rel => exact ⟨k + 1, HL.out, by go_num, HN, B.below⟩
          case measure => have := HL.out; simp [intOf]; omega
        · have HN := Lib.hid (show At (pick 501 (pl l) g t (k + 1)) (.int .i64 k) (.bool true) (k + 1) from .inr ⟨k, pick_first HPL.out HX.out HP.out hc, by omega, rfl, rfl⟩)
          go_wp2_with fail
          have B := Box.new HB0 [.int .i64 x.f0, .int .i64 x.f1, .slice x.f2.A x.f2.ls.length x.f2.cap, .bool x.f3] 41 (g := wr.heap.size) rfl
          replace HB0 := be HB0 (al (Below.refl _ _) (o := (.cells #[.int .i64 x.f0, .int .i64 x.f1, .slice x.f2.A x.f2.ls.length x.f2.cap, .bool x.f3] 41)))
          generalize (wr.alloc (.cells #[.int .i64 x.f0, .int .i64 x.f1, .slice x.f2.A x.f2.ls.length x.f2.cap, .bool x.f3] 41)) = W3 at B HB0 ⊢
          have B_0 := B.cells 0 _ rfl
          have B_1 := B.cells 1 _ rfl
          have B_2 := B.cells 2 _ rfl
          have B_3 := B.cells 3 _ rfl
          have B_f0 := B.free 0 (by simp)
          have B_f1 := B.free 1 (by simp)
          have B_f2 := B.free 2 (by simp)
          have B_f3 := B.free 3 (by simp)
          have B_t := B.there
          clear h0 h1 h2 h3
          refine wp_region_text (fun w' => Box (wr.heap.size) [.int .i64 x.f0, .int .i64 x.f1, .slice x.f2.A x.f2.ls.length x.f2.cap, .bool x.f3] w w' ∧ Below w.heap.size w w') (by kernel_rfl) (by kernel_rfl) ⟨B.drew, be HB0 (Below.refl _ _).drew⟩ ?_
          clear B_0 B_1 B_2 B_3 B_f0 B_f1 B_f2 B_f3 B_t
          iterate 20 (
            apply SeqH.one
            · intro uw K hS hK
              obtain ⟨qB, qHB0⟩ := hS
              have qB_0 := qB.cells 0 _ rfl
              have qB_1 := qB.cells 1 _ rfl
              have qB_2 := qB.cells 2 _ rfl
              have qB_3 := qB.cells 3 _ rfl
              first
                | (go_simp; exact hK.out _ ⟨qB, qHB0⟩)
                | (go_simp; go_at_call 30; (with_reducible refine (can_impl x g t _ (rd_keep HRX.out qB.below) HNX.out).mono ?_); rintro e uw1 ⟨rfl, hv⟩; rw [hc]; go_wp2_with fail; exact hK.out _ ⟨qB.more hv, be qHB0 hv⟩)
            try simp only [Act.put, List.setIfInBounds_toArray, List.set_cons_zero, List.set_cons_succ])
          refine SeqH.end' rfl ?_
          intro v4 hS
          clear B HB0
          obtain ⟨B, HB0⟩ := hS
          have B_0 := B.cells 0 _ rfl
          have B_1 := B.cells 1 _ rfl
          have B_2 := B.cells 2 _ rfl
          have B_3 := B.cells 3 _ rfl
          have B_f0 := B.free 0 (by simp)
          have B_f1 := B.free 1 (by simp)
          have B_f2 := B.free 2 (by simp)
          have B_f3 := B.free 3 (by simp)
          have B_t := B.there
          go_wp2
          go_roundw
          case rel => exact ⟨k + 1, HL.out, by go_num, HN, B.below⟩
          case measure => have := HL.out; simp [intOf]; omega
      · have hjl : j < l.length := by omega
        obtain ⟨y, hy⟩ : ∃ y, l[j] = y := ⟨_, rfl⟩
        obtain ⟨b', o', hA, hb', _, _, hq2, _⟩ := hs_at HR.out (Below.refl _ _) hjl hy
        obtain ⟨rfl, rfl⟩ : b = b' ∧ o = o' := by injection hA with hA; injection hA with e1 e2 _; exact ⟨e1, e2⟩
        have hrow := hs_row HR.out hjl hy
        have HRY := Lib.hid hrow.1; clear hrow
        have HNY := Lib.hid (show y.f2.ls.length ≤ 1048576 by have := HRW.out _ (List.getElem_mem hjl); rw [hy] at this; omega)
        have HY := Lib.hid (pl_x hjl hy); clear hy hA hb'
        have HP := Lib.hid hp; clear hp
        have HJ := Lib.hid (pl_lt hjl)
        cases hc : can x.pure g t
        · have HN := Lib.hid (show At (pick 501 (pl l) g t (k + 1)) (.int .i64 j) (.bool true) (k + 1) from .inr ⟨j, (pick_no HPL.out HX.out hc).trans HP.out, by omega, rfl, rfl⟩)
          go_wp2_with fail
          have B := Box.new HB0 [.int .i64 x.f0, .int .i64 x.f1, .slice x.f2.A x.f2.ls.length x.f2.cap, .bool x.f3] 41 (g := wr.heap.size) rfl
          replace HB0 := be HB0 (al (Below.refl _ _) (o := (.cells #[.int .i64 x.f0, .int .i64 x.f1, .slice x.f2.A x.f2.ls.length x.f2.cap, .bool x.f3] 41)))
          generalize (wr.alloc (.cells #[.int .i64 x.f0, .int .i64 x.f1, .slice x.f2.A x.f2.ls.length x.f2.cap, .bool x.f3] 41)) = W5 at B HB0 ⊢
          have B_0 := B.cells 0 _ rfl
          have B_1 := B.cells 1 _ rfl
          have B_2 := B.cells 2 _ rfl
          have B_3 := B.cells 3 _ rfl
          have B_f0 := B.free 0 (by simp)
          have B_f1 := B.free 1 (by simp)
          have B_f2 := B.free 2 (by simp)
          have B_f3 := B.free 3 (by simp)
          have B_t := B.there
          clear h0 h1 h2 h3
          refine wp_region_text (fun w' => Box (wr.heap.size) [.int .i64 x.f0, .int .i64 x.f1, .slice x.f2.A x.f2.ls.length x.f2.cap, .bool x.f3] w w' ∧ Below w.heap.size w w') (by kernel_rfl) (by kernel_rfl) ⟨B.drew, be HB0 (Below.refl _ _).drew⟩ ?_
          clear B_0 B_1 B_2 B_3 B_f0 B_f1 B_f2 B_f3 B_t
          iterate 20 (
            apply SeqH.one
            · intro uw K hS hK
              obtain ⟨qB, qHB0⟩ := hS
              have qB_0 := qB.cells 0 _ rfl
              have qB_1 := qB.cells 1 _ rfl
              have qB_2 := qB.cells 2 _ rfl
              have qB_3 := qB.cells 3 _ rfl
              first
                | (go_simp; exact hK.out _ ⟨qB, qHB0⟩)
                | (go_simp; go_at_call 30; (with_reducible refine (can_impl x g t _ (rd_keep HRX.out qB.below) HNX.out).mono ?_); rintro e uw1 ⟨rfl, hv⟩; rw [hc]; go_wp2_with fail; exact hK.out _ ⟨qB.more hv, be qHB0 hv⟩)
            try simp only [Act.put, List.setIfInBounds_toArray, List.set_cons_zero, List.set_cons_succ])
          refine SeqH.end' rfl ?_
          intro v6 hS
          clear B HB0
          obtain ⟨B, HB0⟩ := hS
          have B_0 := B.cells 0 _ rfl
          have B_1 := B.cells 1 _ rfl
          have B_2 := B.cells 2 _ rfl
          have B_3 := B.cells 3 _ rfl
          have B_f0 := B.free 0 (by simp)
          have B_f1 := B.free 1 (by simp)
          have B_f2 := B.free 2 (by simp)
          have B_f3 := B.free 3 (by simp)
          have B_t := B.there
          go_wp2
          go_roundw
          case rel => exact ⟨k + 1, HL.out, by go_num, HN, B.below⟩
          case measure => have := HL.out; simp [intOf]; omega
        cases hd : decide (topE 501 x.f2.ls < topE 501 y.f2.ls)
        · have HN := Lib.hid (show At (pick 501 (pl l) g t (k + 1)) (.int .i64 j) (.bool true) (k + 1) from .inr ⟨j, pick_high HPL.out HX.out HP.out HJ.out HY.out (of_decide_eq_false hd), by omega, rfl, rfl⟩)
          go_wp2_with fail
          have B := Box.new HB0 [.int .i64 x.f0, .int .i64 x.f1, .slice x.f2.A x.f2.ls.length x.f2.cap, .bool x.f3] 41 (g := wr.heap.size) rfl
          replace HB0 := be HB0 (al (Below.refl _ _) (o := (.cells #[.int .i64 x.f0, .int .i64 x.f1, .slice x.f2.A x.f2.ls.length x.f2.cap, .bool x.f3] 41)))
          generalize (wr.alloc (.cells #[.int .i64 x.f0, .int .i64 x.f1, .slice x.f2.A x.f2.ls.length x.f2.cap, .bool x.f3] 41)) = W7 at B HB0 ⊢
          have B_0 := B.cells 0 _ rfl
          have B_1 := B.cells 1 _ rfl
          have B_2 := B.cells 2 _ rfl
          have B_3 := B.cells 3 _ rfl
          have B_f0 := B.free 0 (by simp)
          have B_f1 := B.free 1 (by simp)
          have B_f2 := B.free 2 (by simp)
          have B_f3 := B.free 3 (by simp)
          have B_t := B.there
          clear h0 h1 h2 h3
          have hq2_c := ((bcell B.below).1 _ _ hb).trans hq2
          refine wp_region_text (fun w' => Box (wr.heap.size) [.int .i64 x.f0, .int .i64 x.f1, .slice x.f2.A x.f2.ls.length x.f2.cap, .bool x.f3] w w' ∧ Below w.heap.size w w') (by kernel_rfl) (by kernel_rfl) ⟨B.drew, be HB0 (Below.refl _ _).drew⟩ ?_
          clear B_0 B_1 B_2 B_3 B_f0 B_f1 B_f2 B_f3 B_t
          clear hq2_c
          iterate 20 (
            apply SeqH.one
            · intro uw K hS hK
              obtain ⟨qB, qHB0⟩ := hS
              have qB_0 := qB.cells 0 _ rfl
              have qB_1 := qB.cells 1 _ rfl
              have qB_2 := qB.cells 2 _ rfl
              have qB_3 := qB.cells 3 _ rfl
              have qhq2_c := ((bcell qB.below).1 _ _ hb).trans hq2
              first
                | (go_simp; exact hK.out _ ⟨qB, qHB0⟩)
                | (go_simp; go_at_call 30; (with_reducible refine (can_impl x g t _ (rd_keep HRX.out qB.below) HNX.out).mono ?_); rintro e uw1 ⟨rfl, hv⟩; rw [hc]; go_wp2_with fail; exact hK.out _ ⟨qB.more hv, be qHB0 hv⟩)
                | (go_simp; go_at_call 59; (with_reducible refine (top_impl x.f2.A x.f2.cap x.f2.ls _ (rd_keep HRX.out qB.below) (by have := HNX.out; omega)).mono ?_); rintro e _ ⟨rfl, rfl⟩; go_wp2_with fail; exact hK.out _ ⟨qB, qHB0⟩)
                | (go_simp; go_at_call 59; (with_reducible refine (top_impl y.f2.A y.f2.cap y.f2.ls _ (rd_keep HRY.out qB.below) HNY.out).mono ?_); rintro e _ ⟨rfl, rfl⟩; go_wp2_with fail; exact hK.out _ ⟨qB, qHB0⟩)
            try simp only [Act.put, List.setIfInBounds_toArray, List.set_cons_zero, List.set_cons_succ])
          refine SeqH.end' rfl ?_
          intro v8 hS
          clear B HB0
          obtain ⟨B, HB0⟩ := hS
          have B_0 := B.cells 0 _ rfl
          have B_1 := B.cells 1 _ rfl
          have B_2 := B.cells 2 _ rfl
          have B_3 := B.cells 3 _ rfl
          have B_f0 := B.free 0 (by simp)
          have B_f1 := B.free 1 (by simp)
          have B_f2 := B.free 2 (by simp)
          have B_f3 := B.free 3 (by simp)
          have B_t := B.there
          have hq2_c := ((bcell B.below).1 _ _ hb).trans hq2
          go_wp2
          go_roundw
          case rel => exact ⟨k + 1, HL.out, by go_num, HN, B.below⟩
          case measure => have := HL.out; simp [intOf]; omega
        · have HN := Lib.hid (show At (pick 501 (pl l) g t (k + 1)) (.int .i64 k) (.bool true) (k + 1) from .inr ⟨k, pick_low HPL.out HX.out HP.out HJ.out HY.out hc (of_decide_eq_true hd), by omega, rfl, rfl⟩)
          go_wp2_with fail
          have B := Box.new HB0 [.int .i64 x.f0, .int .i64 x.f1, .slice x.f2.A x.f2.ls.length x.f2.cap, .bool x.f3] 41 (g := wr.heap.size) rfl
          replace HB0 := be HB0 (al (Below.refl _ _) (o := (.cells #[.int .i64 x.f0, .int .i64 x.f1, .slice x.f2.A x.f2.ls.length x.f2.cap, .bool x.f3] 41)))
          generalize (wr.alloc (.cells #[.int .i64 x.f0, .int .i64 x.f1, .slice x.f2.A x.f2.ls.length x.f2.cap, .bool x.f3] 41)) = W9 at B HB0 ⊢
          have B_0 := B.cells 0 _ rfl
          have B_1 := B.cells 1 _ rfl
          have B_2 := B.cells 2 _ rfl
          have B_3 := B.cells 3 _ rfl
          have B_f0 := B.free 0 (by simp)
          have B_f1 := B.free 1 (by simp)
          have B_f2 := B.free 2 (by simp)
          have B_f3 := B.free 3 (by simp)
          have B_t := B.there
          clear h0 h1 h2 h3
          have hq2_c := ((bcell B.below).1 _ _ hb).trans hq2
          refine wp_region_text (fun w' => Box (wr.heap.size) [.int .i64 x.f0, .int .i64 x.f1, .slice x.f2.A x.f2.ls.length x.f2.cap, .bool x.f3] w w' ∧ Below w.heap.size w w') (by kernel_rfl) (by kernel_rfl) ⟨B.drew, be HB0 (Below.refl _ _).drew⟩ ?_
          clear B_0 B_1 B_2 B_3 B_f0 B_f1 B_f2 B_f3 B_t
          clear hq2_c
          iterate 20 (
            apply SeqH.one
            · intro uw K hS hK
              obtain ⟨qB, qHB0⟩ := hS
              have qB_0 := qB.cells 0 _ rfl
              have qB_1 := qB.cells 1 _ rfl
              have qB_2 := qB.cells 2 _ rfl
              have qB_3 := qB.cells 3 _ rfl
              have qhq2_c := ((bcell qB.below).1 _ _ hb).trans hq2
              first
                | (go_simp; exact hK.out _ ⟨qB, qHB0⟩)
                | (go_simp; go_at_call 30; (with_reducible refine (can_impl x g t _ (rd_keep HRX.out qB.below) HNX.out).mono ?_); rintro e uw1 ⟨rfl, hv⟩; rw [hc]; go_wp2_with fail; exact hK.out _ ⟨qB.more hv, be qHB0 hv⟩)
                | (go_simp; go_at_call 59; (with_reducible refine (top_impl x.f2.A x.f2.cap x.f2.ls _ (rd_keep HRX.out qB.below) (by have := HNX.out; omega)).mono ?_); rintro e _ ⟨rfl, rfl⟩; go_wp2_with fail; exact hK.out _ ⟨qB, qHB0⟩)
                | (go_simp; go_at_call 59; (with_reducible refine (top_impl y.f2.A y.f2.cap y.f2.ls _ (rd_keep HRY.out qB.below) HNY.out).mono ?_); rintro e _ ⟨rfl, rfl⟩; go_wp2_with fail; exact hK.out _ ⟨qB, qHB0⟩)
            try simp only [Act.put, List.setIfInBounds_toArray, List.set_cons_zero, List.set_cons_succ])
          refine SeqH.end' rfl ?_
          intro v10 hS
          clear B HB0
          obtain ⟨B, HB0⟩ := hS
          have B_0 := B.cells 0 _ rfl
          have B_1 := B.cells 1 _ rfl
          have B_2 := B.cells 2 _ rfl
          have B_3 := B.cells 3 _ rfl
          have B_f0 := B.free 0 (by simp)
          have B_f1 := B.free 1 (by simp)
          have B_f2 := B.free 2 (by simp)
          have B_f3 := B.free 3 (by simp)
          have B_t := B.there
          have hq2_c := ((bcell B.below).1 _ _ hb).trans hq2
          go_wp2
          go_roundw
          case rel => exact ⟨k + 1, HL.out, by go_num, HN, B.below⟩
          case measure => have := HL.out; simp [intOf]; omega
    · have hkk : k = l.length := by omega
      subst hkk
      rcases HA.out with ⟨hp, rfl, rfl⟩ | ⟨j, hp, hj, rfl, rfl⟩
      · have HP := Lib.hid hp; clear hp
        go_wp2
        go_ret2
        exact rpost (by rw [HP.out] <;> rfl) HB0
      · have HP := Lib.hid hp; clear hp
        go_wp2
        go_ret2
        exact rpost (by rw [HP.out] <;> rfl) HB0
set_option maxHeartbeats 800000 in
theorem for_impl (P : Option Addr) (cap : Nat) (l : List R) (g t : Int) (w : World) (hr : Hs w w.heap.size P l) :
    Calls Tryd.prog 13 #[.slice P l.length cap, .int .i64 g, .int .i64 t] w (RPost (forV (pl l) g t) w) := by
  have hn := hr.len
  have HR := Lib.hid hr; clear hr
  go_enter Tryd.func13, Tryd.ntmps13
  go_wp2_with fail
  refine (are_impl P cap l w HR.out).mono ?_
  rintro e w1 ⟨rfl, HB⟩
  cases hg : good (pl l)
  · have HV := Lib.hid (forV_bad (g := g) (t := t) hg)
    go_wp2
    go_ret2
    exact rpost (by rw [HV.out] <;> rfl) HB
  have HG := Lib.hid hg; clear hg
  go_wp2_with fail
  refine (place_impl P cap l g t w1 (HR.out.keep HB) (fun x hx => by obtain ⟨k, hk, rfl⟩ := List.getElem_of_mem hx; exact (row_bd HG.out hk rfl).1)).mono ?_
  rintro e w2 ⟨rfl, hB2⟩
  replace HB := be HB hB2
  cases hp : pick 501 (pl l) g t l.length with
  | none =>
    have HV := Lib.hid (forV_none (l := pl l) (g := g) (t := t) (by rw [pl_len]; exact hp))
    unfold pTuple
    go_wp2
    go_ret2
    exact rpost (by rw [HV.out] <;> rfl) HB
  | some j =>
    have hj := (pick_ok (by rw [pl_len]; exact Nat.le_refl _) hp).1
    obtain ⟨x, hx⟩ : ∃ x, l[j] = x := ⟨_, rfl⟩
    obtain ⟨b, o, rfl, hb, h0, h1, h2, h3⟩ := hs_at HR.out HB hj hx
    have HV := Lib.hid (forV_some HG.out (by rw [pl_len]; exact hp) (pl_lt hj) (pl_x hj hx))
    clear hx hp
    unfold pTuple
    go_wp2
    go_ret2
    exact rpost (by rw [HV.out] <;> rfl) HB
end Go.Proofs.YtokgncbcknpfiaaDoor.HeapQ
