/- The law on HeapText, walked. -/
import Derived.Test.YtafdlopfildkhaaDoorHText
namespace Go.Proofs.YtafdlopfildkhaaDoor.LawText
open Go.RowKit Go.Proofs.YtafdlopfildkhaaDoor.Mem Go.Proofs.YtafdlopfildkhaaDoor.Base Go.Proofs.YtafdlopfildkhaaDoor.SInt Go.Proofs.YtafdlopfildkhaaDoor.Regn Go.Proofs.YtafdlopfildkhaaDoor.Boxes Go.Proofs.YtafdlopfildkhaaDoor.Keep Go.Proofs.YtafdlopfildkhaaDoor.Nest Go.Proofs.YtafdlopfildkhaaDoor.HeapS Go.Proofs.YtafdlopfildkhaaDoor.HeapW Go.Proofs.YtafdlopfildkhaaDoor.HeapE Go.Proofs.YtafdlopfildkhaaDoor.Heap Go.Proofs.YtafdlopfildkhaaDoor.HeapG Go.Proofs.YtafdlopfildkhaaDoor.HText Go.Proofs.YtafdlopfildkhaaDoor.Num
set_option linter.unusedVariables false
set_option maxRecDepth 100000
def Yes (w : World) (e : Ending) (w' : World) : Prop := e = .returned (.bool true) ∧ Below w.heap.size w w'
set_option maxHeartbeats 800000 in
theorem text_law (a g : Int) (A : Option Addr) (l : List Int) (c : Nat) (q : Bool) (w : World) (hr : Rd w w.heap.size A (iv l)) (hn : l.length ≤ maxLen) (ht : Tab w) :
    Calls Tryd.prog 4 #[.agg #[.int .i64 a, .int .i64 g, .slice A l.length c, .bool q]] w (Yes w) := by
  have HTab := Lib.hid ht; clear ht
  have HR := Lib.hid hr; clear hr
  have HNM := Lib.hid hn
  by_cases hbig : 1048576 < l.length
  · have HS := Lib.hid (show szV 1048576 l.length = -1 by unfold szV; rw [if_pos (by omega)])
    go_enter Tryd.func4, Tryd.ntmps4
    go_wp2_with fail
    have X := Box.new (Below.refl _ w) [.int .i64 a, .int .i64 g, .slice A l.length c, .bool q] 46 (g := w.heap.size) rfl
    generalize (w.alloc (.cells #[.int .i64 a, .int .i64 g, .slice A l.length c, .bool q] 46)) = W1 at X ⊢
    have X_0 := X.cells 0 _ rfl
    have X_1 := X.cells 1 _ rfl
    have X_2 := X.cells 2 _ rfl
    have X_3 := X.cells 3 _ rfl
    have X_f0 := X.free 0 (by simp)
    have X_f1 := X.free 1 (by simp)
    have X_f2 := X.free 2 (by simp)
    have X_f3 := X.free 3 (by simp)
    have X_t := X.there
    go_wp2_with fail
    refine (szH_any ⟨a, g, ⟨A, c, l⟩, q⟩ 1048576 _ (by omega) (by omega) HNM.out).mono ?_
    rintro e v2 ⟨rfl, hv2⟩
    clear X_0 X_1 X_2 X_3 X_f0 X_f1 X_f2 X_f3 X_t
    replace X := X.more hv2
    have zhv2 := hv2.size
    clear hv2
    have X_0 := X.cells 0 _ rfl
    have X_1 := X.cells 1 _ rfl
    have X_2 := X.cells 2 _ rfl
    have X_3 := X.cells 3 _ rfl
    have X_f0 := X.free 0 (by simp)
    have X_f1 := X.free 1 (by simp)
    have X_f2 := X.free 2 (by simp)
    have X_f3 := X.free 3 (by simp)
    have X_t := X.there
    rw [HS.out]
    go_wp2
    go_ret
    exact ⟨rfl, X.below⟩
  have hl : l.length ≤ 1048576 := by omega
  have HS := Lib.hid (show szV 1048576 l.length = 1048576 - l.length by unfold szV; rw [if_neg (by omega)])
  clear hn
  obtain ⟨t, qq, hv⟩ := txt_form (R.pure ⟨a, g, ⟨A, c, l⟩, q⟩)
  have HQ := Lib.hid (fun r : Row => fun h : r.ls = l => show txtV (R.pure ⟨a, g, r, q⟩) = .tuple #[.string t, .bool qq] by rw [← hv]; unfold R.pure; rw [h])
  clear hv
  go_enter Tryd.func4, Tryd.ntmps4
  go_wp2_with fail
  have X := Box.new (Below.refl _ w) [.int .i64 a, .int .i64 g, .slice A l.length c, .bool q] 46 (g := w.heap.size) rfl
  generalize (w.alloc (.cells #[.int .i64 a, .int .i64 g, .slice A l.length c, .bool q] 46)) = W1 at X ⊢
  have X_0 := X.cells 0 _ rfl
  have X_1 := X.cells 1 _ rfl
  have X_2 := X.cells 2 _ rfl
  have X_3 := X.cells 3 _ rfl
  have X_f0 := X.free 0 (by simp)
  have X_f1 := X.free 1 (by simp)
  have X_f2 := X.free 2 (by simp)
  have X_f3 := X.free 3 (by simp)
  have X_t := X.there
  have X_0 := X.cells 0 _ rfl
  have X_1 := X.cells 1 _ rfl
  have X_2 := X.cells 2 _ rfl
  have X_3 := X.cells 3 _ rfl
  have X_f0 := X.free 0 (by simp)
  have X_f1 := X.free 1 (by simp)
  have X_f2 := X.free 2 (by simp)
  have X_f3 := X.free 3 (by simp)
  have X_t := X.there
  go_wp2_with fail
  refine (szH_any ⟨a, g, ⟨A, c, l⟩, q⟩ 1048576 _ (by omega) (by omega) HNM.out).mono ?_
  rintro e v2 ⟨rfl, hv2⟩
  clear X_0 X_1 X_2 X_3 X_f0 X_f1 X_f2 X_f3 X_t
  replace X := X.more hv2
  have zhv2 := hv2.size
  clear hv2
  have X_0 := X.cells 0 _ rfl
  have X_1 := X.cells 1 _ rfl
  have X_2 := X.cells 2 _ rfl
  have X_3 := X.cells 3 _ rfl
  have X_f0 := X.free 0 (by simp)
  have X_f1 := X.free 1 (by simp)
  have X_f2 := X.free 2 (by simp)
  have X_f3 := X.free 3 (by simp)
  have X_t := X.there
  rw [HS.out]
  go_wp2_with fail
  refine (to_at ⟨a, g, ⟨A, c, l⟩, q⟩ _ (rd_keep HR.out X.below) hl).mono ?_
  rintro e v3 ⟨rfl, ho, hv3⟩
  clear X_0 X_1 X_2 X_3 X_f0 X_f1 X_f2 X_f3 X_t
  replace X := X.more hv3
  have zhv3 := hv3.size
  clear hv3
  have X_0 := X.cells 0 _ rfl
  have X_1 := X.cells 1 _ rfl
  have X_2 := X.cells 2 _ rfl
  have X_3 := X.cells 3 _ rfl
  have X_f0 := X.free 0 (by simp)
  have X_f1 := X.free 1 (by simp)
  have X_f2 := X.free 2 (by simp)
  have X_f3 := X.free 3 (by simp)
  have X_t := X.there
  go_wp2_with fail
  refine (text_spec ⟨a, g, ⟨_, _, l⟩, q⟩ _ ho.rd hl).mono ?_
  rintro e v4 ⟨rfl, hv4⟩
  clear X_0 X_1 X_2 X_3 X_f0 X_f1 X_f2 X_f3 X_t
  replace X := X.more hv4
  have zhv4 := hv4.size
  clear hv4
  have X_0 := X.cells 0 _ rfl
  have X_1 := X.cells 1 _ rfl
  have X_2 := X.cells 2 _ rfl
  have X_3 := X.cells 3 _ rfl
  have X_f0 := X.free 0 (by simp)
  have X_f1 := X.free 1 (by simp)
  have X_f2 := X.free 2 (by simp)
  have X_f3 := X.free 3 (by simp)
  have X_t := X.there
  rw [HQ.out _ rfl]
  clear ho
  go_wp2_with fail
  refine (to_at ⟨a, g, ⟨A, c, l⟩, q⟩ _ (rd_keep HR.out X.below) hl).mono ?_
  rintro e v5 ⟨rfl, ho, hv5⟩
  clear X_0 X_1 X_2 X_3 X_f0 X_f1 X_f2 X_f3 X_t
  replace X := X.more hv5
  have zhv5 := hv5.size
  clear hv5
  have X_0 := X.cells 0 _ rfl
  have X_1 := X.cells 1 _ rfl
  have X_2 := X.cells 2 _ rfl
  have X_3 := X.cells 3 _ rfl
  have X_f0 := X.free 0 (by simp)
  have X_f1 := X.free 1 (by simp)
  have X_f2 := X.free 2 (by simp)
  have X_f3 := X.free 3 (by simp)
  have X_t := X.there
  obtain ⟨zb, hzb⟩ : ∃ b, v4.heap.size + 3 = b := ⟨_, rfl⟩
  rw [hzb] at ho ⊢
  clear hzb
  go_wp2_with fail
  have hvX := X.there
  have X_t6 := X.there
  have Y := Box.new X.below [.int .i64 a, .int .i64 g, .slice (some ⟨zb, 0, none⟩) l.length l.length, .bool q] 41 (g := v5.heap.size) rfl
  clear X_0 X_1 X_2 X_3 X_f0 X_f1 X_f2 X_f3 X_t
  replace X := (X).alloc (.cells #[.int .i64 a, .int .i64 g, .slice (some ⟨zb, 0, none⟩) l.length l.length, .bool q] 41)
  replace ho := RowOwn.keep ho (al (Below.refl _ _) (o := (.cells #[.int .i64 a, .int .i64 g, .slice (some ⟨zb, 0, none⟩) l.length l.length, .bool q] 41)))
  generalize (v5.alloc (.cells #[.int .i64 a, .int .i64 g, .slice (some ⟨zb, 0, none⟩) l.length l.length, .bool q] 41)) = W6 at Y X ho ⊢
  have X_0 := X.cells 0 _ rfl
  have X_1 := X.cells 1 _ rfl
  have X_2 := X.cells 2 _ rfl
  have X_3 := X.cells 3 _ rfl
  have X_f0 := X.free 0 (by simp)
  have X_f1 := X.free 1 (by simp)
  have X_f2 := X.free 2 (by simp)
  have X_f3 := X.free 3 (by simp)
  have X_t := X.there
  have Y_0 := Y.cells 0 _ rfl
  have Y_1 := Y.cells 1 _ rfl
  have Y_2 := Y.cells 2 _ rfl
  have Y_3 := Y.cells 3 _ rfl
  have Y_f0 := Y.free 0 (by simp)
  have Y_f1 := Y.free 1 (by simp)
  have Y_f2 := Y.free 2 (by simp)
  have Y_f3 := Y.free 3 (by simp)
  have Y_t := Y.there
  have Y_0 := Y.cells 0 _ rfl
  have Y_1 := Y.cells 1 _ rfl
  have Y_2 := Y.cells 2 _ rfl
  have Y_3 := Y.cells 3 _ rfl
  have Y_f0 := Y.free 0 (by simp)
  have Y_f1 := Y.free 1 (by simp)
  have Y_f2 := Y.free 2 (by simp)
  have Y_f3 := Y.free 3 (by simp)
  have Y_t := Y.there
  go_wp2_with fail
  refine (text_impl ⟨a, g, ⟨some ⟨zb, 0, none⟩, l.length, l⟩, q⟩ _ ho.rd hl (HTab.out.below X.below)).mono ?_
  rintro e v7 ⟨rfl, hv7⟩
  clear X_0 X_1 X_2 X_3 X_f0 X_f1 X_f2 X_f3 X_t
  clear Y_0 Y_1 Y_2 Y_3 Y_f0 Y_f1 Y_f2 Y_f3 Y_t
  replace X := X.more hv7
  replace Y := Y.more hv7
  replace ho := RowOwn.keep ho hv7
  have zhv7 := hv7.size
  clear hv7
  have X_0 := X.cells 0 _ rfl
  have X_1 := X.cells 1 _ rfl
  have X_2 := X.cells 2 _ rfl
  have X_3 := X.cells 3 _ rfl
  have X_f0 := X.free 0 (by simp)
  have X_f1 := X.free 1 (by simp)
  have X_f2 := X.free 2 (by simp)
  have X_f3 := X.free 3 (by simp)
  have X_t := X.there
  have Y_0 := Y.cells 0 _ rfl
  have Y_1 := Y.cells 1 _ rfl
  have Y_2 := Y.cells 2 _ rfl
  have Y_3 := Y.cells 3 _ rfl
  have Y_f0 := Y.free 0 (by simp)
  have Y_f1 := Y.free 1 (by simp)
  have Y_f2 := Y.free 2 (by simp)
  have Y_f3 := Y.free 3 (by simp)
  have Y_t := Y.there
  rw [HQ.out _ rfl]
  clear hvX
  go_upto_region 10 with fail
  have HE := Lib.hid (fun n0 : Nat => same_yes (x := ⟨a, g, ⟨some ⟨zb, 0, none⟩, l.length, l⟩, q⟩) (y := ⟨a, g, ⟨some ⟨n0 + 3, 0, none⟩, l.length, l⟩, q⟩) rfl rfl rfl rfl)
  have HLM := Lib.hid (show l.length ≤ maxLen by unfold maxLen; omega)
  clear X_0 X_1 X_2 X_3 X_f0 X_f1 X_f2 X_f3 X_t Y_0 Y_1 Y_2 Y_3 Y_f0 Y_f1 Y_f2 Y_f3 Y_t
  obtain ⟨n0, hn0⟩ : ∃ n, n = v7.heap.size := ⟨_, rfl⟩
  refine wp_region_seq (fun L w' => Box (w.heap.size) [.int .i64 a, .int .i64 g, .slice A l.length c, .bool q] w w' ∧ Box (v5.heap.size) [.int .i64 a, .int .i64 g, .slice (some ⟨zb, 0, none⟩) l.length l.length, .bool q] w w' ∧
    RowOwn w' v4.heap.size ⟨some ⟨zb, 0, none⟩, l.length, l⟩ ∧ (¬ L 2 → w'.heap.size = n0) ∧ (L 2 → RowOwn w' n0 ⟨some ⟨n0 + 3, 0, none⟩, l.length, l⟩)) (by kernel_rfl) (by kernel_rfl) ⟨X.drew, Y.drew, ho.keep (Below.refl _ _).drew, fun _ => hn0.symm, fun h => h.elim⟩ ?_
  replace hn0 := Lib.hid hn0
  iterate 5 (
    apply SeqH.op
    · intro L uw K hN hS hK
      obtain ⟨qX, qY, qR, qz, qo⟩ := hS
      have qX_0 := qX.cells 0 _ rfl; have qX_1 := qX.cells 1 _ rfl; have qX_2 := qX.cells 2 _ rfl; have qX_3 := qX.cells 3 _ rfl
      have qY_0 := qY.cells 0 _ rfl; have qY_1 := qY.cells 1 _ rfl; have qY_2 := qY.cells 2 _ rfl; have qY_3 := qY.cells 3 _ rfl
      first
        | (go_simp; exact hK.out _ ⟨qX, qY, qR, fun a => qz (fun h => a (.inl h)), fun h => qo (h.resolve_right (by decide))⟩)
        | (have e0 := qz (hN.out.1 2 (by decide +kernel)); go_simp; go_at_call 25; (with_reducible refine (to_at ⟨a, g, ⟨A, c, l⟩, q⟩ _ (rd_keep HR.out qX.below) hl).mono ?_); rintro e uw1 ⟨rfl, ho, hv⟩; rw [e0] at ho ⊢; go_wp2_with fail; exact hK.out _ ⟨qX.more hv, qY.more hv, qR.keep hv, fun a => (a (by simp)).elim, fun _ => ho⟩)
        | (have ql := hN.out.2 2 (by decide +kernel); have qr := qo ql; go_simp; go_at_call 26; (with_reducible refine (HeapE.eq_any ⟨a, g, ⟨some ⟨zb, 0, none⟩, l.length, l⟩, q⟩ ⟨a, g, ⟨some ⟨n0 + 3, 0, none⟩, l.length, l⟩, q⟩ _ qR.rd qr.rd HLM.out HLM.out).mono ?_); rintro e uw1 ⟨rfl, hv⟩; rw [HE.out n0]; go_wp2_with fail; exact hK.out _ ⟨qX.more hv, qY.more hv, qR.keep hv, fun a => (a (.inl ql)).elim, fun h => qr.keep hv⟩)
    try simp only [Act.put, List.setIfInBounds_toArray, List.set_cons_zero, List.set_cons_succ])
  refine SeqH.done rfl ?_
  intro L vz hL hS
  have HB := hS.1.below
  clear hL hS X Y ho
  go_wp2
  go_ret
  exact ⟨rfl, HB⟩
end Go.Proofs.YtafdlopfildkhaaDoor.LawText
