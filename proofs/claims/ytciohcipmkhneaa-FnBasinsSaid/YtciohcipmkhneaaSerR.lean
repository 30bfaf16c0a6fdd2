/- Series: IsRising. -/
import Derived.Test.YtciohcipmkhneaaSerC
namespace Go.Proofs.Ytciohcipmkhneaa.SerR
open Go.RowKit Go.Proofs.Ytciohcipmkhneaa.Mem Go.Proofs.Ytciohcipmkhneaa.Base Go.Proofs.Ytciohcipmkhneaa.Within Go.Proofs.Ytciohcipmkhneaa.Brine Go.Proofs.Ytciohcipmkhneaa.Brine2 Go.Proofs.Ytciohcipmkhneaa.Brine5 Go.Proofs.Ytciohcipmkhneaa.Brine6 Go.Proofs.Ytciohcipmkhneaa.Regn Go.Proofs.Ytciohcipmkhneaa.Boxes Go.Proofs.Ytciohcipmkhneaa.Keep Go.Proofs.Ytciohcipmkhneaa.Ser Go.Proofs.Ytciohcipmkhneaa.SerG Go.Proofs.Ytciohcipmkhneaa.SerC
open Go.Proofs.Ytciohcipmkhneaa.SBasin hiding RPost rpost
set_option linter.unusedVariables false
set_option maxRecDepth 100000
set_option maxHeartbeats 800000 in
theorem rise_spec (P : Option Addr) (cap : Nat) (l : List R) (w : World) (hr : Rd w w.heap.size P (flat l)) (hn : l.length ≤ 1048576) :
    Calls Try.prog 44 #[.slice P l.length cap] w (RPost (riseV l) w) := by
  have HR := Lib.hid hr; clear hr
  go_enter Try.func44, Try.ntmps44
  go_wp2_with fail
  refine (good_spec P cap l w HR.out hn).mono ?_
  rintro e w1 ⟨rfl, HB0⟩
  cases hg : good l
  · go_wp2
    go_ret2
    exact rpost (riseV_no hg).symm HB0
  have HG := Lib.hid hg; clear hg
  go_wp2
  have L := Box.new HB0 [.int .i64 0, .int .i64 0] 26 (g := w1.heap.size) rfl
  generalize (w1.alloc (.cells #[.int .i64 0, .int .i64 0] 26)) = W1 at L ⊢
  have L_0 := L.cells 0 _ rfl
  have L_1 := L.cells 1 _ rfl
  have L_f0 := L.free 0 (by simp)
  have L_f1 := L.free 1 (by simp)
  have L_t := L.there
  go_loopw [5] (fun i wr => ∃ (k : Nat) (p q : Int), k ≤ l.length ∧ i = .int .i64 k ∧ Hid (riseF 0 0 l = riseF p q (l.drop k)) ∧ okB p q = true ∧ Box (w1.heap.size) [.int .i64 p, .int .i64 q] w wr) (fun i _ => l.length - (intOf i).toNat)
  case atStart => exact ⟨0, 0, 0, Nat.zero_le _, rfl, Lib.hid (by rw [List.drop_zero]), okB_mk (by omega), L⟩
  case round =>
    clear L_0 L_1 L_f0 L_f1 L_t
    clear L
    obtain ⟨k, p, q, hk, rfl, HF, ho, L⟩ := hrel
    obtain ⟨hp0, hp1, hq0, hq1⟩ := okB_true ho
    have L_0 := L.cells 0 _ rfl
    have L_1 := L.cells 1 _ rfl
    have L_f0 := L.free 0 (by simp)
    have L_f1 := L.free 1 (by simp)
    have L_t := L.there
    by_cases hlt : k < l.length
    · obtain ⟨b, o, rfl, hb, hc⟩ := HR.out.at (k := k * 3) (by rw [flat_n]; omega)
      obtain ⟨x, hx⟩ : ∃ x, l[k] = x := ⟨_, rfl⟩
      obtain ⟨h0, h1, h2⟩ := cells3 L.below hb hc hlt hx
      have hoa := good_get HG.out hlt hx
      have hox := okA_brine hoa
      obtain ⟨_, _, hu0, hu1, hv0, hv1⟩ := okA_true hoa
      have HX := Lib.hid hx
      have HL := Lib.hid hlt
      clear hc hx hoa
      go_wp2_with fail
      have L_t2 := L.there
      have B := Box.new L.below [.int .i64 x.f1, .int .i64 x.f2] 26 (g := wr.heap.size) rfl
      clear L_0 L_1 L_f0 L_f1 L_t
      replace L := (L).alloc (.cells #[.int .i64 x.f1, .int .i64 x.f2] 26)
      generalize (wr.alloc (.cells #[.int .i64 x.f1, .int .i64 x.f2] 26)) = W2 at B L ⊢
      have L_0 := L.cells 0 _ rfl
      have L_1 := L.cells 1 _ rfl
      have L_f0 := L.free 0 (by simp)
      have L_f1 := L.free 1 (by simp)
      have L_t := L.there
      have B_0 := B.cells 0 _ rfl
      have B_1 := B.cells 1 _ rfl
      have B_f0 := B.free 0 (by simp)
      have B_f1 := B.free 1 (by simp)
      have B_t := B.there
      clear h0 h1 h2
      go_wp2_with fail
      refine (mass_spec x.f1 x.f2 hu0 hu1 hv0 hv1 _).mono ?_
      rintro e v3 ⟨rfl, hv3⟩
      clear L_0 L_1 L_f0 L_f1 L_t
      clear B_0 B_1 B_f0 B_f1 B_t
      replace L := L.more hv3
      replace B := B.more hv3
      have zhv3 := hv3.size
      clear hv3
      have L_0 := L.cells 0 _ rfl
      have L_1 := L.cells 1 _ rfl
      have L_f0 := L.free 0 (by simp)
      have L_f1 := L.free 1 (by simp)
      have L_t := L.there
      have B_0 := B.cells 0 _ rfl
      have B_1 := B.cells 1 _ rfl
      have B_f0 := B.free 0 (by simp)
      have B_f1 := B.free 1 (by simp)
      have B_t := B.there
      by_cases hm : x.f1 + x.f2 = 0
      · have hm' : (x.f1 + x.f2 == 0) = true := by rw [beq_iff_eq]; exact hm
        have HN := Lib.hid (HF.out.trans (rise_skip HL.out HX.out hm))
        clear hm
        go_wp2
        go_roundw
        case rel => exact ⟨k + 1, p, q, HL.out, by go_num, HN, ho, L⟩
        case measure => have := HL.out; simp [intOf]; omega
      · have hm' : (x.f1 + x.f2 == 0) = false := by rw [beq_eq_false_iff_ne]; exact hm
        have HM := Lib.hid hm; clear hm
        go_wp2_with fail
        refine (mass_spec p q hp0 hp1 hq0 hq1 _).mono ?_
        rintro e v4 ⟨rfl, hv4⟩
        clear L_0 L_1 L_f0 L_f1 L_t
        clear B_0 B_1 B_f0 B_f1 B_t
        replace L := L.more hv4
        replace B := B.more hv4
        have zhv4 := hv4.size
        clear hv4
        have L_0 := L.cells 0 _ rfl
        have L_1 := L.cells 1 _ rfl
        have L_f0 := L.free 0 (by simp)
        have L_f1 := L.free 1 (by simp)
        have L_t := L.there
        have B_0 := B.cells 0 _ rfl
        have B_1 := B.cells 1 _ rfl
        have B_f0 := B.free 0 (by simp)
        have B_f1 := B.free 1 (by simp)
        have B_t := B.there
        by_cases hp : 0 < p + q
        · have hp' : decide (0 < p + q) = true := decide_eq_true hp
          go_wp2_with fail
          refine (stronger_spec p q x.f1 x.f2 ho hox _).mono ?_
          rintro e v5 ⟨rfl, hv5⟩
          clear L_0 L_1 L_f0 L_f1 L_t
          clear B_0 B_1 B_f0 B_f1 B_t
          replace L := L.more hv5
          replace B := B.more hv5
          have zhv5 := hv5.size
          clear hv5
          have L_0 := L.cells 0 _ rfl
          have L_1 := L.cells 1 _ rfl
          have L_f0 := L.free 0 (by simp)
          have L_f1 := L.free 1 (by simp)
          have L_t := L.there
          have B_0 := B.cells 0 _ rfl
          have B_1 := B.cells 1 _ rfl
          have B_f0 := B.free 0 (by simp)
          have B_f1 := B.free 1 (by simp)
          have B_t := B.there
          by_cases hs : q * x.f1 > x.f2 * p
          · have hs' : decide (q * x.f1 > x.f2 * p) = true := decide_eq_true hs
            have HN := Lib.hid (riseV_yes HG.out (HF.out.trans (rise_no HL.out HX.out HM.out hp hs)))
            rw [hs']
            clear hs hs'
            go_wp2
            go_ret2
            exact rpost HN.out.symm L.below
          · have hs' : decide (q * x.f1 > x.f2 * p) = false := decide_eq_false hs
            have HN := Lib.hid (HF.out.trans (rise_next HL.out HX.out HM.out (fun h => hs h.2)))
            rw [hs']
            clear hs hs'
            go_wp2
            clear L_0 L_1 L_f0 L_f1 L_t
            clear B_0 B_1 B_f0 B_f1 B_t
            have L_t6 := L.there
            have B_t6 := B.there
            have L' : Box (w1.heap.size) [.int .i64 x.f1, .int .i64 x.f2] w _ := ((L.set 0 (.int .i64 x.f1)).set 1 (.int .i64 x.f2))
            have B' : Box (wr.heap.size) [.int .i64 x.f1, .int .i64 x.f2] w _ := ((B.far L.base (by omega) 0 (.int .i64 x.f1)).far L.base (by omega) 1 (.int .i64 x.f2))
            clear L; have L := L'; clear L'
            clear B; have B := B'; clear B'
            have sz6 : ((v5.setCell ⟨w1.heap.size, 0, none⟩ (.int .i64 x.f1)).setCell ⟨w1.heap.size, 1, none⟩ (.int .i64 x.f2)).heap.size = v5.heap.size := by simp only [size_set']
            generalize ((v5.setCell ⟨w1.heap.size, 0, none⟩ (.int .i64 x.f1)).setCell ⟨w1.heap.size, 1, none⟩ (.int .i64 x.f2)) = W6 at L B sz6 ⊢
            replace sz6 := Lib.hid sz6
            have L_0 := L.cells 0 _ rfl
            have L_1 := L.cells 1 _ rfl
            have L_f0 := L.free 0 (by simp)
            have L_f1 := L.free 1 (by simp)
            have L_t := L.there
            have B_0 := B.cells 0 _ rfl
            have B_1 := B.cells 1 _ rfl
            have B_f0 := B.free 0 (by simp)
            have B_f1 := B.free 1 (by simp)
            have B_t := B.there
            go_wp2
            exact ⟨⟨k + 1, x.f1, x.f2, HL.out, by go_num, HN, hox, L⟩, by have := HL.out; simp only [intOf]; omega⟩
        · have hp' : decide (0 < p + q) = false := decide_eq_false hp
          have HN := Lib.hid (HF.out.trans (rise_next HL.out HX.out HM.out (fun h => hp h.1)))
          clear hp
          go_wp2
          clear L_0 L_1 L_f0 L_f1 L_t
          clear B_0 B_1 B_f0 B_f1 B_t
          have L_t7 := L.there
          have B_t7 := B.there
          have L' : Box (w1.heap.size) [.int .i64 x.f1, .int .i64 x.f2] w _ := ((L.set 0 (.int .i64 x.f1)).set 1 (.int .i64 x.f2))
          have B' : Box (wr.heap.size) [.int .i64 x.f1, .int .i64 x.f2] w _ := ((B.far L.base (by omega) 0 (.int .i64 x.f1)).far L.base (by omega) 1 (.int .i64 x.f2))
          clear L; have L := L'; clear L'
          clear B; have B := B'; clear B'
          have sz7 : ((v4.setCell ⟨w1.heap.size, 0, none⟩ (.int .i64 x.f1)).setCell ⟨w1.heap.size, 1, none⟩ (.int .i64 x.f2)).heap.size = v4.heap.size := by simp only [size_set']
          generalize ((v4.setCell ⟨w1.heap.size, 0, none⟩ (.int .i64 x.f1)).setCell ⟨w1.heap.size, 1, none⟩ (.int .i64 x.f2)) = W7 at L B sz7 ⊢
          replace sz7 := Lib.hid sz7
          have L_0 := L.cells 0 _ rfl
          have L_1 := L.cells 1 _ rfl
          have L_f0 := L.free 0 (by simp)
          have L_f1 := L.free 1 (by simp)
          have L_t := L.there
          have B_0 := B.cells 0 _ rfl
          have B_1 := B.cells 1 _ rfl
          have B_f0 := B.free 0 (by simp)
          have B_f1 := B.free 1 (by simp)
          have B_t := B.there
          go_wp2
          exact ⟨⟨k + 1, x.f1, x.f2, HL.out, by go_num, HN, hox, L⟩, by have := HL.out; simp only [intOf]; omega⟩
    · have HE := Lib.hid (riseV_yes HG.out (HF.out.trans (rise_nil p q (show l.length ≤ k by omega))))
      go_wp2
      go_ret2
      exact rpost HE.out.symm L.below
set_option maxHeartbeats 800000 in
theorem rise_impl (P : Option Addr) (cap : Nat) (l : List R) (w : World) (hr : Rd w w.heap.size P (flat l)) (hcp : l.length ≤ cap) (hn : l.length ≤ 1048576) :
    Calls Try.prog 43 #[.slice P l.length cap] w (RPost (riseV l) w) := by
  have HR := Lib.hid hr; clear hr
  go_enter Try.func43, Try.ntmps43
  go_wp2_with fail
  refine (good_impl P cap l w HR.out hn).mono ?_
  rintro e w1 ⟨rfl, HB0⟩
  cases hg : good l
  · go_wp2
    go_ret2
    exact rpost (riseV_no hg).symm HB0
  have HG := Lib.hid hg; clear hg
  go_wp2
  have L := Box.new HB0 [.int .i64 0, .int .i64 0] 26 (g := w1.heap.size) rfl
  generalize (w1.alloc (.cells #[.int .i64 0, .int .i64 0] 26)) = W1 at L ⊢
  have L_0 := L.cells 0 _ rfl
  have L_1 := L.cells 1 _ rfl
  have L_f0 := L.free 0 (by simp)
  have L_f1 := L.free 1 (by simp)
  have L_t := L.there
  go_loopw [15] (fun i wr => ∃ (k : Nat) (p q : Int), k ≤ l.length ∧ i = .int .i64 k ∧ Hid (riseF 0 0 l = riseF p q (l.drop k)) ∧ okB p q = true ∧ Box (w1.heap.size) [.int .i64 p, .int .i64 q] w wr) (fun i _ => l.length - (intOf i).toNat)
  case atStart => exact ⟨0, 0, 0, Nat.zero_le _, rfl, Lib.hid (by rw [List.drop_zero]), okB_mk (by omega), L⟩
  case round =>
    clear L_0 L_1 L_f0 L_f1 L_t
    clear L
    obtain ⟨k, p, q, hk, rfl, HF, ho, L⟩ := hrel
    obtain ⟨hp0, hp1, hq0, hq1⟩ := okB_true ho
    have L_0 := L.cells 0 _ rfl
    have L_1 := L.cells 1 _ rfl
    have L_f0 := L.free 0 (by simp)
    have L_f1 := L.free 1 (by simp)
    have L_t := L.there
    by_cases hlt : k < l.length
    · obtain ⟨b, o, rfl, hb, hc⟩ := HR.out.at (k := k * 3) (by rw [flat_n]; omega)
      obtain ⟨x, hx⟩ : ∃ x, l[k] = x := ⟨_, rfl⟩
      obtain ⟨h0, h1, h2⟩ := cells3 L.below hb hc hlt hx
      have hoa := good_get HG.out hlt hx
      have hox := okA_brine hoa
      obtain ⟨_, _, hu0, hu1, hv0, hv1⟩ := okA_true hoa
      have HX := Lib.hid hx
      have HL := Lib.hid hlt
      clear hc hx hoa
      go_wp2_with fail
      have L_t2 := L.there
      have B := Box.new L.below [.int .i64 x.f0, .int .i64 x.f1, .int .i64 x.f2] 50 (g := wr.heap.size) rfl
      clear L_0 L_1 L_f0 L_f1 L_t
      replace L := (L).alloc (.cells #[.int .i64 x.f0, .int .i64 x.f1, .int .i64 x.f2] 50)
      generalize (wr.alloc (.cells #[.int .i64 x.f0, .int .i64 x.f1, .int .i64 x.f2] 50)) = W2 at B L ⊢
      have L_0 := L.cells 0 _ rfl
      have L_1 := L.cells 1 _ rfl
      have L_f0 := L.free 0 (by simp)
      have L_f1 := L.free 1 (by simp)
      have L_t := L.there
      have B_0 := B.cells 0 _ rfl
      have B_1 := B.cells 1 _ rfl
      have B_2 := B.cells 2 _ rfl
      have B_f0 := B.free 0 (by simp)
      have B_f1 := B.free 1 (by simp)
      have B_f2 := B.free 2 (by simp)
      have B_t := B.there
      clear h0 h1 h2
      go_wp2_with fail
      refine (IBrine.mass_impl x.f1 x.f2 hu0 hu1 hv0 hv1 _).mono ?_
      rintro e v3 ⟨rfl, hv3⟩
      clear L_0 L_1 L_f0 L_f1 L_t
      clear B_0 B_1 B_2 B_f0 B_f1 B_f2 B_t
      replace L := L.more hv3
      replace B := B.more hv3
      have zhv3 := hv3.size
      clear hv3
      have L_0 := L.cells 0 _ rfl
      have L_1 := L.cells 1 _ rfl
      have L_f0 := L.free 0 (by simp)
      have L_f1 := L.free 1 (by simp)
      have L_t := L.there
      have B_0 := B.cells 0 _ rfl
      have B_1 := B.cells 1 _ rfl
      have B_2 := B.cells 2 _ rfl
      have B_f0 := B.free 0 (by simp)
      have B_f1 := B.free 1 (by simp)
      have B_f2 := B.free 2 (by simp)
      have B_t := B.there
      by_cases hm : x.f1 + x.f2 = 0
      · have hm' : (x.f1 + x.f2 == 0) = true := by rw [beq_iff_eq]; exact hm
        have HN := Lib.hid (HF.out.trans (rise_skip HL.out HX.out hm))
        clear hm
        go_wp2
        go_roundw
        case rel => exact ⟨k + 1, p, q, HL.out, by go_num, HN, ho, L⟩
        case measure => have := HL.out; simp [intOf]; omega
      · have hm' : (x.f1 + x.f2 == 0) = false := by rw [beq_eq_false_iff_ne]; exact hm
        have HM := Lib.hid hm
        go_wp2_with fail
        refine (IBrine2.strong_impl p q x.f1 x.f2 _).mono ?_
        rintro e v4 ⟨rfl, hv4⟩
        clear L_0 L_1 L_f0 L_f1 L_t
        clear B_0 B_1 B_2 B_f0 B_f1 B_f2 B_t
        replace L := L.more hv4
        replace B := B.more hv4
        have zhv4 := hv4.size
        clear hv4
        have L_0 := L.cells 0 _ rfl
        have L_1 := L.cells 1 _ rfl
        have L_f0 := L.free 0 (by simp)
        have L_f1 := L.free 1 (by simp)
        have L_t := L.there
        have B_0 := B.cells 0 _ rfl
        have B_1 := B.cells 1 _ rfl
        have B_2 := B.cells 2 _ rfl
        have B_f0 := B.free 0 (by simp)
        have B_f1 := B.free 1 (by simp)
        have B_f2 := B.free 2 (by simp)
        have B_t := B.there
        by_cases hp : 0 < p + q
        · have HS := strong_yes (a := p) (b := q) (c := x.f1) (d := x.f2) (by
            have e1 : (p + q == 0) = false := by rw [beq_eq_false_iff_ne]; omega
            unfold strongOk; rw [ho, hox, e1, hm']; rfl)
          rw [HS.out]
          by_cases hs : q * x.f1 > x.f2 * p
          · have hs' : decide (q * x.f1 > x.f2 * p) = true := decide_eq_true hs
            have HN := Lib.hid (riseV_yes HG.out (HF.out.trans (rise_no HL.out HX.out HM.out hp hs)))
            rw [hs']
            clear hs hs' hm
            go_wp2
            go_ret2
            exact rpost HN.out.symm L.below
          · have hs' : decide (q * x.f1 > x.f2 * p) = false := decide_eq_false hs
            have HN := Lib.hid (HF.out.trans (rise_next HL.out HX.out HM.out (fun h => hs h.2)))
            rw [hs']
            clear hs hs' hm
            go_wp2
            clear L_0 L_1 L_f0 L_f1 L_t
            clear B_0 B_1 B_2 B_f0 B_f1 B_f2 B_t
            have L_t5 := L.there
            have B_t5 := B.there
            have L' : Box (w1.heap.size) [.int .i64 x.f1, .int .i64 x.f2] w _ := ((L.set 0 (.int .i64 x.f1)).set 1 (.int .i64 x.f2))
            have B' : Box (wr.heap.size) [.int .i64 x.f0, .int .i64 x.f1, .int .i64 x.f2] w _ := ((B.far L.base (by omega) 0 (.int .i64 x.f1)).far L.base (by omega) 1 (.int .i64 x.f2))
            clear L; have L := L'; clear L'
            clear B; have B := B'; clear B'
            have sz5 : ((v4.setCell ⟨w1.heap.size, 0, none⟩ (.int .i64 x.f1)).setCell ⟨w1.heap.size, 1, none⟩ (.int .i64 x.f2)).heap.size = v4.heap.size := by simp only [size_set']
            generalize ((v4.setCell ⟨w1.heap.size, 0, none⟩ (.int .i64 x.f1)).setCell ⟨w1.heap.size, 1, none⟩ (.int .i64 x.f2)) = W5 at L B sz5 ⊢
            replace sz5 := Lib.hid sz5
            have L_0 := L.cells 0 _ rfl
            have L_1 := L.cells 1 _ rfl
            have L_f0 := L.free 0 (by simp)
            have L_f1 := L.free 1 (by simp)
            have L_t := L.there
            have B_0 := B.cells 0 _ rfl
            have B_1 := B.cells 1 _ rfl
            have B_2 := B.cells 2 _ rfl
            have B_f0 := B.free 0 (by simp)
            have B_f1 := B.free 1 (by simp)
            have B_f2 := B.free 2 (by simp)
            have B_t := B.there
            go_wp2
            exact ⟨⟨k + 1, x.f1, x.f2, HL.out, by go_num, HN, hox, L⟩, by have := HL.out; simp only [intOf]; omega⟩
        · have HS := strong_no (a := p) (b := q) (c := x.f1) (d := x.f2) (by
            have e1 : (p + q == 0) = true := by rw [beq_iff_eq]; omega
            unfold strongOk; rw [e1]; simp)
          rw [HS.out]
          have HN := Lib.hid (HF.out.trans (rise_next HL.out HX.out HM.out (fun h => hp h.1)))
          clear hp hm
          go_wp2
          clear L_0 L_1 L_f0 L_f1 L_t
          clear B_0 B_1 B_2 B_f0 B_f1 B_f2 B_t
          have L_t6 := L.there
          have B_t6 := B.there
          have L' : Box (w1.heap.size) [.int .i64 x.f1, .int .i64 x.f2] w _ := ((L.set 0 (.int .i64 x.f1)).set 1 (.int .i64 x.f2))
          have B' : Box (wr.heap.size) [.int .i64 x.f0, .int .i64 x.f1, .int .i64 x.f2] w _ := ((B.far L.base (by omega) 0 (.int .i64 x.f1)).far L.base (by omega) 1 (.int .i64 x.f2))
          clear L; have L := L'; clear L'
          clear B; have B := B'; clear B'
          have sz6 : ((v4.setCell ⟨w1.heap.size, 0, none⟩ (.int .i64 x.f1)).setCell ⟨w1.heap.size, 1, none⟩ (.int .i64 x.f2)).heap.size = v4.heap.size := by simp only [size_set']
          generalize ((v4.setCell ⟨w1.heap.size, 0, none⟩ (.int .i64 x.f1)).setCell ⟨w1.heap.size, 1, none⟩ (.int .i64 x.f2)) = W6 at L B sz6 ⊢
          replace sz6 := Lib.hid sz6
          have L_0 := L.cells 0 _ rfl
          have L_1 := L.cells 1 _ rfl
          have L_f0 := L.free 0 (by simp)
          have L_f1 := L.free 1 (by simp)
          have L_t := L.there
          have B_0 := B.cells 0 _ rfl
          have B_1 := B.cells 1 _ rfl
          have B_2 := B.cells 2 _ rfl
          have B_f0 := B.free 0 (by simp)
          have B_f1 := B.free 1 (by simp)
          have B_f2 := B.free 2 (by simp)
          have B_t := B.there
          go_wp2
          exact ⟨⟨k + 1, x.f1, x.f2, HL.out, by go_num, HN, hox, L⟩, by have := HL.out; simp only [intOf]; omega⟩
    · have HE := Lib.hid (riseV_yes HG.out (HF.out.trans (rise_nil p q (show l.length ≤ k by omega))))
      go_wp2
      go_ret2
      exact rpost HE.out.symm L.below
end Go.Proofs.Ytciohcipmkhneaa.SerR
