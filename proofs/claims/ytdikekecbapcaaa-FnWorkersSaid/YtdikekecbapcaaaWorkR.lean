/- Workers: l5Raked, l5Week, l5Find. -/
import Derived.Test.YtdikekecbapcaaaWorkG
namespace Go.Proofs.Ytdikekecbapcaaa.WorkR
open Go.RowKit Go.Proofs.Ytdikekecbapcaaa.Mem Go.Proofs.Ytdikekecbapcaaa.Base Go.Proofs.Ytdikekecbapcaaa.SWorker Go.Proofs.Ytdikekecbapcaaa.Regn Go.Proofs.Ytdikekecbapcaaa.Boxes Go.Proofs.Ytdikekecbapcaaa.Keep Go.Proofs.Ytdikekecbapcaaa.Work Go.Proofs.Ytdikekecbapcaaa.Work2 Go.Proofs.Ytdikekecbapcaaa.WorkS Go.Proofs.Ytdikekecbapcaaa.WorkG
set_option linter.unusedVariables false
set_option maxRecDepth 100000
def rkV (p : List R) : Value := .tuple #[.int .i64 (raked p), .bool (works p)]
theorem rk_yes {p : List R} {s : Int} (hs : rakes p = s) (h2 : 2 ≤ p.length) (hc : p.any R.f3 = true) : rkV p = .tuple #[.int .i64 s, .bool true] := by
  have h : works p = true := by unfold works; rw [decide_eq_true h2, hc]; rfl
  unfold rkV raked; rw [if_pos h, h, hs]
theorem rk_few {p : List R} (h2 : p.length < 2) : rkV p = .tuple #[.int .i64 0, .bool false] := by
  have h : works p = false := by unfold works; rw [decide_eq_false (by omega)]; rfl
  unfold rkV raked; rw [h]; rfl
theorem rk_none {p : List R} (hc : p.any R.f3 = false) : rkV p = .tuple #[.int .i64 0, .bool false] := by
  have h : works p = false := by unfold works; rw [hc, Bool.and_false]
  unfold rkV raked; rw [h]; rfl
set_option maxHeartbeats 1600000 in
theorem raked_spec (P : Option Addr) (cap : Nat) (l : List R) (g d wo : Int) (w : World) (hr : Rd w w.heap.size P (flat l)) (hs : Sane l) :
    Calls Try.prog 66 #[.slice P l.length cap, .int .i64 g, .int .i64 d, .int .i64 wo] w (RPost (rkV (l.filter (less g d wo))) w) := by
  have HR := Lib.hid hr; clear hr
  have HS := Lib.hid hs; have hl12 := hs.1; clear hs
  go_enter Try.func66, Try.ntmps66
  go_wp2
  go_loopw [10, 11, 12, 13] (fun n s c i wr => ∃ (k m : Nat) (q : Int) (e : Bool) (p : List R), k ≤ l.length ∧ m ≤ k ∧ i = .int .i64 k ∧ n = .int .i64 m ∧ s = .int .i64 q ∧ c = .bool e ∧ Hid ((l.take k).filter (less g d wo) = p) ∧ Hid (p.length = m) ∧ Hid (rakes p = q) ∧ Hid (p.any R.f3 = e) ∧ 0 ≤ q ∧ q ≤ 50 * k ∧ Below w.heap.size w wr) (fun _ _ _ i _ => l.length - (intOf i).toNat)
  case atStart => exact ⟨0, 0, 0, false, [], Nat.zero_le _, Nat.le_refl _, rfl, rfl, rfl, rfl, Lib.hid rfl, Lib.hid rfl, Lib.hid rfl, Lib.hid rfl, by omega, by omega, Below.refl _ _⟩
  case round =>
    obtain ⟨k, m, q, e, p, hk, hm, rfl, rfl, rfl, rfl, HP, HM, HQ, HE, q0, q1, HB0⟩ := hrel
    by_cases hlt : k < l.length
    · obtain ⟨b, o, rfl, hb, hc⟩ := HR.out.at (k := k * 5) (by rw [flat_n]; omega)
      obtain ⟨x, hx⟩ : ∃ x, l[k] = x := ⟨_, rfl⟩
      obtain ⟨h0, h1, h2, h3, h4⟩ := cells5 HB0 hb hc hlt hx
      have hx2 : 0 ≤ x.f2 ∧ x.f2 ≤ 50 := by have := HS.out.2 l[k] (List.getElem_mem hlt); rw [hx] at this; omega
      have HX := Lib.hid hx; clear hx hc
      have HL := Lib.hid hlt
      have y1 : IntKind.i64.wrap ((m : Int) + 1) = (m : Int) + 1 := IntWalk.i64_in _ (by omega)
      have y2 : IntKind.i64.wrap (q + x.f2) = q + x.f2 := IntWalk.i64_in _ (by omega)
      have HT := Lib.hid (show less g d wo x = (x.f1 == g && x.f4 != d && x.f0 != wo) from rfl)
      have HX2 := Lib.hid hx2
      cases c1 : (x.f1 == g)
      · have HN := Lib.hid ((filter_skip HL.out HX.out (by rw [HT.out, c1] <;> rfl)).trans HP.out)
        go_wp2
        go_roundw
        case rel => exact ⟨k + 1, m, q, e, p, HL.out, by omega, by go_num, rfl, rfl, rfl, HN, HM, HQ, HE, q0, by omega, al HB0⟩
        case measure => have := HL.out; simp [intOf]; omega
      cases c2 : (x.f4 != d)
      · have HN := Lib.hid ((filter_skip HL.out HX.out (by rw [HT.out, c1, c2] <;> rfl)).trans HP.out)
        go_wp2
        go_roundw
        case rel => exact ⟨k + 1, m, q, e, p, HL.out, by omega, by go_num, rfl, rfl, rfl, HN, HM, HQ, HE, q0, by omega, al HB0⟩
        case measure => have := HL.out; simp [intOf]; omega
      cases c3 : (x.f0 != wo)
      · have HN := Lib.hid ((filter_skip HL.out HX.out (by rw [HT.out, c1, c2, c3] <;> rfl)).trans HP.out)
        go_wp2
        go_roundw
        case rel => exact ⟨k + 1, m, q, e, p, HL.out, by omega, by go_num, rfl, rfl, rfl, HN, HM, HQ, HE, q0, by omega, al HB0⟩
        case measure => have := HL.out; simp [intOf]; omega
      have HN := Lib.hid ((filter_yes (q := less g d wo) HL.out HX.out (by rw [HT.out, c1, c2, c3] <;> rfl)).trans (by rw [HP.out]))
      have HM1 := Lib.hid (show (p ++ [x]).length = m + 1 by rw [List.length_append, HM.out]; rfl)
      have HQ1 := Lib.hid (show rakes (p ++ [x]) = q + x.f2 by rw [rakes_snoc, HQ.out])
      have HE1 := Lib.hid (show (p ++ [x]).any R.f3 = (e || x.f3) by rw [List.any_append, HE.out]; simp)
      cases e
      · go_wp2
        go_roundw
        case rel => exact ⟨k + 1, m + 1, q + x.f2, x.f3, p ++ [x], HL.out, by omega, by go_num, by go_num, rfl, rfl, HN, HM1, HQ1, Lib.hid (HE1.out.trans (Bool.false_or _)), by have := HX2.out; omega, by have := HX2.out; omega, al HB0⟩
        case measure => have := HL.out; simp [intOf]; omega
      · go_wp2
        go_roundw
        case rel => exact ⟨k + 1, m + 1, q + x.f2, true, p ++ [x], HL.out, by omega, by go_num, by go_num, rfl, rfl, HN, HM1, HQ1, Lib.hid (HE1.out.trans (Bool.true_or _)), by have := HX2.out; omega, by have := HX2.out; omega, al HB0⟩
        case measure => have := HL.out; simp [intOf]; omega
    · have HF := Lib.hid (show l.filter (less g d wo) = p by have := HP.out; rwa [List.take_of_length_le (by omega)] at this)
      by_cases h2 : m < 2
      · have HV := Lib.hid (rk_few (p := p) (by rw [HM.out]; exact h2))
        have h2' : (m : Int) < 2 := by omega
        go_wp2
        go_ret2
        exact rpost (by rw [HF.out, HV.out] <;> rfl) HB0
      · have h2' : decide ((m : Int) < 2) = false := decide_eq_false (by omega)
        cases e
        · have HV := Lib.hid (rk_none HE.out)
          go_wp2
          go_ret2
          exact rpost (by rw [HF.out, HV.out] <;> rfl) HB0
        · have HV := Lib.hid (rk_yes HQ.out (by rw [HM.out]; omega) HE.out)
          go_wp2
          go_ret2
          exact rpost (by rw [HF.out, HV.out] <;> rfl) HB0
theorem raked0_spec (P : Option Addr) (cap : Nat) (l : List R) (g d : Int) (w : World) (hr : Rd w w.heap.size P (flat l)) (hs : Sane l) :
    Calls Try.prog 66 #[.slice P l.length cap, .int .i64 g, .int .i64 d, .int .i64 0] w (RPost (.tuple #[.int .i64 (rakedOn l g d), .bool (works (pres l g d))]) w) := by
  have := raked_spec P cap l g d 0 w hr hs
  rw [less_zero hs] at this
  exact this
theorem week_spec (P : Option Addr) (cap : Nat) (l : List R) (g : Int) (w : World) (hr : Rd w w.heap.size P (flat l)) (hs : Sane l) :
    Calls Try.prog 76 #[.slice P l.length cap, .int .i64 g] w (RPost (.int .i64 (weekSum l g)) w) := by
  have HR := Lib.hid hr; clear hr
  have HS := Lib.hid hs; clear hs
  go_enter Try.func76, Try.ntmps76
  go_wp2
  go_loopw [5, 6] (fun s i wr => ∃ (k : Nat) (q : Int), k ≤ 7 ∧ i = .int .i64 k ∧ s = .int .i64 q ∧ Hid ((weekN l g k).sum = q) ∧ 0 ≤ q ∧ q ≤ 600 * k ∧ Below w.heap.size w wr) (fun _ i _ => 7 - (intOf i).toNat)
  case atStart => exact ⟨0, 0, by omega, rfl, rfl, Lib.hid rfl, by omega, by omega, Below.refl _ _⟩
  case round =>
    obtain ⟨k, q, hk, rfl, rfl, HQ, q0, q1, HB⟩ := hrel
    by_cases hlt : k < 7
    · have hki : (k : Int) < 7 := by omega
      go_wp2_with fail
      refine (raked0_spec P cap l g k wr ((HR.out.below HB (Nat.le_refl _)).mono HB.size) HS.out).mono ?_
      rintro e v1 ⟨rfl, hv⟩
      have HB1 := be HB hv; clear hv HB
      have HB1' := Lib.hid (HS.out.on g k)
      have HN := Lib.hid (show (weekN l g (k + 1)).sum = q + rakedOn l g k by rw [weekN_snoc, List.sum_append, HQ.out]; simp)
      generalize rakedOn l g k = r at *
      have y1 : IntKind.i64.wrap (q + r) = q + r := IntWalk.i64_in _ (by have := HB1'.out; omega)
      go_wp2
      go_roundw
      case rel => exact ⟨k + 1, q + r, by omega, by go_num, rfl, HN, by have := HB1'.out; omega, by have := HB1'.out; omega, HB1⟩
      case measure => simp [intOf]; omega
    · obtain rfl : k = 7 := by omega
      have HE := Lib.hid (show weekSum l g = q from HQ.out)
      go_wp2
      go_ret
      exact rpost (by rw [HE.out] <;> rfl) HB
set_option maxHeartbeats 1000000 in
theorem find_spec (P : Option Addr) (cap : Nat) (l : List R) (id : Int) (w : World) (hr : Rd w w.heap.size P (flat l)) (hn : l.length ≤ 1048576) :
    Calls Try.prog 75 #[.slice P l.length cap, .int .i64 id] w (RPost (.int .i64 (find l id)) w) := by
  have HR := Lib.hid hr; clear hr
  go_enter Try.func75, Try.ntmps75
  go_wp2
  go_loopw [5] (fun i wr => ∃ k : Nat, k ≤ l.length ∧ i = .int .i64 k ∧ Hid (Not l id k) ∧ Below w.heap.size w wr) (fun i _ => l.length - (intOf i).toNat)
  case atStart => exact ⟨0, Nat.zero_le _, rfl, Lib.hid (fun j _ hj => by omega), Below.refl _ _⟩
  case round =>
    obtain ⟨k, hk, rfl, HN, HB⟩ := hrel
    by_cases hlt : k < l.length
    · have HRW := Lib.hid ((HR.out.below HB (Nat.le_refl _)).mono HB.size)
      go_wp2_with fail
      refine (good_spec P cap l wr HRW.out hn).mono ?_
      rintro e w1 ⟨rfl, hv⟩
      have HB1 := be HB hv
      clear hv HRW
      cases hg : good l
      · go_wp2
        go_ret
        exact rpost (by rw [find_bad hg] <;> rfl) HB1
      · obtain ⟨b, o, rfl, hb, hc⟩ := HR.out.at (k := k * 5) (by rw [flat_n]; omega)
        obtain ⟨x, hx⟩ : ∃ x, l[k].f0 = x := ⟨_, rfl⟩
        have h0 : w1.cell? ⟨b, o + k * 5, none⟩ = some (.int .i64 x) := ((bcell HB1).1 _ _ hb).trans (by rw [← hx]; exact hc _ _ (flat_0 l k hlt))
        have HL := Lib.hid hlt
        have HG := Lib.hid hg; clear hg
        clear hc
        by_cases he : x = id
        · subst he
          have HF := Lib.hid (find_at HG.out hlt HN.out hx); clear hx
          go_wp2
          go_ret
          exact rpost (by rw [HF.out] <;> rfl) HB1
        · have hne : (x == id) = false := by simp [he]
          have HN1 := Lib.hid (HN.out.next hlt (by rw [hx]; exact he)); clear hx he
          go_wp2
          go_roundw
          case rel => exact ⟨k + 1, HL.out, by go_num, HN1, HB1⟩
          case measure => have := HL.out; simp [intOf]; omega
    · have HF := Lib.hid (find_none (l := l) (id := id) (fun j hj _ => HN.out j hj (by omega)))
      go_wp2
      go_ret
      exact rpost (by rw [HF.out] <;> rfl) HB
end Go.Proofs.Ytdikekecbapcaaa.WorkR
