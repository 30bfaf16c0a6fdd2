/- Workers: EvenGangs, the model's; slices.Max and Min. -/
import Derived.Test.YtdikekecbapcaaaWorkU
import Derived.Test.YtdikekecbapcaaaWorkR
namespace Go.Proofs.Ytdikekecbapcaaa.WorkV
open Go.RowKit Go.Proofs.Ytdikekecbapcaaa.Mem Go.Proofs.Ytdikekecbapcaaa.Base Go.Proofs.Ytdikekecbapcaaa.SWorker Go.Proofs.Ytdikekecbapcaaa.SInt Go.Proofs.Ytdikekecbapcaaa.RInt Go.Proofs.Ytdikekecbapcaaa.Regn Go.Proofs.Ytdikekecbapcaaa.Boxes Go.Proofs.Ytdikekecbapcaaa.Keep Go.Proofs.Ytdikekecbapcaaa.Work Go.Proofs.Ytdikekecbapcaaa.Work2 Go.Proofs.Ytdikekecbapcaaa.WorkS Go.Proofs.Ytdikekecbapcaaa.WorkG Go.Proofs.Ytdikekecbapcaaa.WorkR Go.Proofs.Ytdikekecbapcaaa.WorkK Go.Proofs.Ytdikekecbapcaaa.WorkU
set_option linter.unusedVariables false
set_option maxRecDepth 100000
theorem even_no {l : List R} (h : good l = false) : evenV l = .tuple #[.int .i64 0, .bool false] := by unfold evenV; rw [h]; rfl
theorem even_yes {l : List R} {u v : Int} (h : good l = true) (hu : lo (weeksN l 5) = u) (hv : hi (weeksN l 5) = v) : evenV l = .tuple #[.int .i64 (v - u), .bool true] := by unfold evenV; rw [if_pos h, hu, hv]
theorem even_form (l : List R) : ∃ x q, evenV l = .tuple #[.int .i64 x, .bool q] := by
  unfold evenV
  split
  · exact ⟨_, _, rfl⟩
  · exact ⟨_, _, rfl⟩
set_option maxHeartbeats 800000 in
theorem even_spec (P : Option Addr) (cap : Nat) (l : List R) (w : World) (hr : Rd w w.heap.size P (flat l)) (hn : l.length ≤ 1048576) :
    Calls Try.prog 42 #[.slice P l.length cap] w (RPost (evenV l) w) := by
  have HR := Lib.hid hr; clear hr
  go_enter Try.func42, Try.ntmps42
  go_wp2_with fail
  refine (sz_spec P cap l w HR.out hn).mono ?_
  rintro e w1 ⟨A1, a1, rfl, O1, HB⟩
  cases hg : good l
  · have HV := Lib.hid (even_no hg); clear hg O1
    go_wp2
    go_ret2
    exact rpost (by rw [HV.out] <;> rfl) HB
  have h12 := (good_all hg).1
  have HS := Lib.hid (good_sane hg)
  have HG := Lib.hid hg; clear hg
  rw [sz_yes HG.out] at O1 ⊢
  have O : w1.ownsRow w.heap.size 3 1 (.slice A1 6 a1) 6 (iv (sizes l)) := by rw [sizes_len] at O1; exact O1
  clear O1
  obtain ⟨g, _, rfl, _⟩ := Mem.own_some O (by omega)
  have hsl := sizes_len l
  rw [hsl]
  clear hsl
  go_wp2
  go_loopw [6, 7, 8] (fun p q i wr => ∃ (k : Nat) (u v : Int), k ≤ 5 ∧ i = .int .i64 ((k : Int) + 1) ∧ p = .int .i64 u ∧ q = .int .i64 v ∧ Hid (lo (weeksN l k) = u) ∧ Hid (hi (weeksN l k) = v) ∧ wr.ownsRow w.heap.size 3 1 (.slice (some ⟨g, 0, none⟩) 6 a1) 6 (iv (sizes l)) ∧ Below w.heap.size w wr) (fun _ _ i _ => 6 - (intOf i).toNat)
  case atStart => exact ⟨0, -1, -1, by omega, rfl, rfl, rfl, Lib.hid rfl, Lib.hid rfl, O, HB⟩
  case round =>
    clear O HB
    obtain ⟨k, u, v, hk, rfl, rfl, rfl, HU, HV, O, HB⟩ := hrel
    by_cases hlt : k < 5
    · have hki : (k : Int) + 1 ≤ 5 := by omega
      have y0 : IntKind.i64.wrap ((k : Int) + 1 + 1) = (k : Int) + 1 + 1 := IntWalk.i64_in _ (by omega)
      obtain ⟨z, hz⟩ : ∃ z : Nat, size l (k + 1) = z := ⟨_, rfl⟩
      have m0 := row_get (k := k + 1) O (v := (z : Int)) (by rw [sizes_get _ _ (by omega), hz])
      by_cases hz0 : z = 0
      · subst hz0
        have HN := Lib.hid (weeksN_no hz)
        go_wp2
        go_roundw
        case rel => exact ⟨k + 1, u, v, by omega, by first | go_num | (congr 1; omega), rfl, rfl, Lib.hid ((congrArg lo HN.out).trans HU.out), Lib.hid ((congrArg hi HN.out).trans HV.out), O, HB⟩
        case measure => simp [intOf]; omega
      · have hzb : ((z : Int) == 0) = false := by simp [hz0]
        have HN := Lib.hid (weeksN_yes (l := l) (n := k) (by rw [hz]; exact hz0))
        clear hz0 hz
        go_wp2_with fail
        refine (week_spec P cap l ((k : Int) + 1) wr ((HR.out.below HB (Nat.le_refl _)).mono HB.size) HS.out).mono ?_
        rintro e v1 ⟨rfl, hv⟩
        replace HB := be HB hv
        replace O := own_keep O hv
        clear hv m0
        generalize weekSum l ((k : Int) + 1) = n at HN ⊢
        have HLO := Lib.hid (show lo (weeksN l (k + 1)) = low u n by rw [HN.out, lo_snoc, HU.out])
        have HHI := Lib.hid (show hi (weeksN l (k + 1)) = most v n by rw [HN.out, hi_snoc, HV.out])
        clear HN
        by_cases hu0 : u < 0
        · have HL := Lib.hid (HLO.out.trans (show low u n = n by unfold low; rw [if_pos (Or.inl hu0)])); clear HLO
          go_wp2_with (go_at_call 89; (with_reducible refine (most_any _ _ _).mono ?_); rintro e' w' ⟨rfl, rfl⟩)
          go_roundw
          case rel => exact ⟨k + 1, n, most v n, by omega, by first | go_num | (congr 1; omega), rfl, rfl, HL, HHI, O, HB⟩
          case measure => simp [intOf]; omega
        · have hu1 : decide (u < 0) = false := decide_eq_false hu0
          by_cases hnu : n < u
          · have HL := Lib.hid (HLO.out.trans (show low u n = n by unfold low; rw [if_pos (Or.inr hnu)])); clear HLO
            go_wp2_with (go_at_call 89; (with_reducible refine (most_any _ _ _).mono ?_); rintro e' w' ⟨rfl, rfl⟩)
            go_roundw
            case rel => exact ⟨k + 1, n, most v n, by omega, by first | go_num | (congr 1; omega), rfl, rfl, HL, HHI, O, HB⟩
            case measure => simp [intOf]; omega
          · have hnu1 : decide (n < u) = false := decide_eq_false hnu
            have HL := Lib.hid (HLO.out.trans (show low u n = u by unfold low; rw [if_neg (by omega)])); clear HLO
            go_wp2_with (go_at_call 89; (with_reducible refine (most_any _ _ _).mono ?_); rintro e' w' ⟨rfl, rfl⟩)
            go_roundw
            case rel => exact ⟨k + 1, u, most v n, by omega, by first | go_num | (congr 1; omega), rfl, rfl, HL, HHI, O, HB⟩
            case measure => simp [intOf]; omega
    · obtain rfl : k = 5 := by omega
      have HE := Lib.hid (even_yes HG.out HU.out HV.out)
      have hb := lo_bd (weeksN_bd HS.out 5).2
      rw [HU.out, HV.out] at hb
      have y1 : IntKind.i64.wrap (v - u) = v - u := IntWalk.i64_in _ (by omega)
      clear hb
      go_wp2
      go_ret2
      exact rpost (by rw [HE.out] <;> rfl) HB
theorem hi_one {x : Int} (h : 0 ≤ x) : hi [x] = x := by
  simp only [hi, List.foldl_cons, List.foldl_nil, most]
  split <;> omega
theorem most_if {q x : Int} : most q x = if q < x then x else q := by
  unfold most
  split <;> split <;> omega
theorem low_if {q x : Int} (h : 0 ≤ q) : low q x = if x < q then x else q := by
  unfold low
  by_cases h1 : x < q
  · rw [if_pos h1, if_pos (Or.inr h1)]
  · rw [if_neg h1, if_neg (by omega)]
theorem low_pos {q x : Int} (h : 0 ≤ q) (hx : 0 ≤ x) : 0 ≤ low q x := by
  rw [low_if h]; split <;> omega
theorem lo_one {x : Int} : lo [x] = x := by
  simp only [lo, List.foldl_cons, List.foldl_nil, low]
  rw [if_pos (Or.inl (by omega))]
theorem max_any (P : Option Addr) (cap : Nat) (l : List Int) (w : World) (hr : Rd w w.heap.size P (iv l)) (h1 : 1 ≤ l.length) (hn : l.length ≤ 1000) (hb : ∀ x ∈ l, 0 ≤ x ∧ x ≤ 4200) :
    Calls Try.prog 87 #[.slice P l.length cap] w (RPost (.int .i64 (hi l)) w) := by
  obtain ⟨b, o, rfl, hbl, hc⟩ := hr.at (k := 0) (by rw [iv_len]; omega)
  have HC := Lib.hid hc; clear hc hr
  have HBD := Lib.hid hb; clear hb
  have m0 : w.cell? ⟨b, o + 0, none⟩ = some (.int .i64 l[0]) := HC.out 0 _ (iv_get l 0 (by omega))
  rw [Nat.add_zero] at m0
  have HH := Lib.hid (show hi (l.take 1) = l[0] by
    rw [List.take_succ_eq_append_getElem (by omega)]
    exact hi_one (HBD.out _ (List.getElem_mem (by omega))).1)
  generalize l[0] = x0 at *
  have h0 : decide ((l.length : Int) < 1) = false := decide_eq_false (by omega)
  go_enter Try.func87, Try.ntmps87
  go_wp2
  go_loopw [3, 4] (fun m i wr => ∃ (k : Nat) (q : Int), 1 ≤ k ∧ k ≤ l.length ∧ i = .int .i64 k ∧ m = .int .i64 q ∧ Hid (hi (l.take k) = q) ∧ wr = w) (fun _ i _ => l.length - (intOf i).toNat)
  case atStart => exact ⟨1, x0, by omega, h1, rfl, rfl, HH, rfl⟩
  case round =>
    obtain ⟨k, q, hk1, hk, rfl, rfl, HQ, rfl⟩ := hrel
    by_cases hlt : k < l.length
    · have m1 : wr.cell? ⟨b, o + k, none⟩ = some (.int .i64 l[k]) := HC.out k _ (iv_get l k hlt)
      have HN := Lib.hid (show hi (l.take (k + 1)) = most q l[k] by rw [List.take_succ_eq_append_getElem hlt, hi_snoc, HQ.out])
      have HL := Lib.hid hlt
      generalize l[k] = x at *
      go_wp2
      exact ⟨⟨k + 1, most q x, by omega, HL.out, by go_num, by rw [most_if], HN, trivial⟩, by have := HL.out; simp [intOf]; omega⟩
    · have HF := Lib.hid (show hi l = q by have := HQ.out; rwa [List.take_of_length_le (by omega)] at this)
      go_wp2
      go_ret
      exact rpost (by rw [HF.out] <;> rfl) (Below.refl _ _)
theorem min_any (P : Option Addr) (cap : Nat) (l : List Int) (w : World) (hr : Rd w w.heap.size P (iv l)) (h1 : 1 ≤ l.length) (hn : l.length ≤ 1000) (hb : ∀ x ∈ l, 0 ≤ x ∧ x ≤ 4200) :
    Calls Try.prog 88 #[.slice P l.length cap] w (RPost (.int .i64 (lo l)) w) := by
  obtain ⟨b, o, rfl, hbl, hc⟩ := hr.at (k := 0) (by rw [iv_len]; omega)
  have HC := Lib.hid hc; clear hc hr
  have HBD := Lib.hid hb; clear hb
  have m0 : w.cell? ⟨b, o + 0, none⟩ = some (.int .i64 l[0]) := HC.out 0 _ (iv_get l 0 (by omega))
  rw [Nat.add_zero] at m0
  have HH := Lib.hid (show lo (l.take 1) = l[0] by
    rw [List.take_succ_eq_append_getElem (by omega)]
    exact lo_one)
  have HX := Lib.hid (HBD.out _ (List.getElem_mem (show 0 < l.length by omega))).1
  generalize l[0] = x0 at *
  have h0 : decide ((l.length : Int) < 1) = false := decide_eq_false (by omega)
  go_enter Try.func88, Try.ntmps88
  go_wp2
  go_loopw [3, 4] (fun m i wr => ∃ (k : Nat) (q : Int), 1 ≤ k ∧ k ≤ l.length ∧ i = .int .i64 k ∧ m = .int .i64 q ∧ Hid (lo (l.take k) = q) ∧ 0 ≤ q ∧ wr = w) (fun _ i _ => l.length - (intOf i).toNat)
  case atStart => exact ⟨1, x0, by omega, h1, rfl, rfl, HH, HX.out, rfl⟩
  case round =>
    obtain ⟨k, q, hk1, hk, rfl, rfl, HQ, hq0, rfl⟩ := hrel
    by_cases hlt : k < l.length
    · have m1 : wr.cell? ⟨b, o + k, none⟩ = some (.int .i64 l[k]) := HC.out k _ (iv_get l k hlt)
      have HN := Lib.hid (show lo (l.take (k + 1)) = low q l[k] by rw [List.take_succ_eq_append_getElem hlt, lo_snoc, HQ.out])
      have HL := Lib.hid hlt
      have HX1 := Lib.hid (HBD.out _ (List.getElem_mem hlt)).1
      generalize l[k] = x at *
      go_wp2
      exact ⟨⟨k + 1, low q x, by omega, HL.out, by go_num, by rw [low_if hq0], HN, low_pos hq0 HX1.out, trivial⟩, by have := HL.out; simp [intOf]; omega⟩
    · have HF := Lib.hid (show lo l = q by have := HQ.out; rwa [List.take_of_length_le (by omega)] at this)
      go_wp2
      go_ret
      exact rpost (by rw [HF.out] <;> rfl) (Below.refl _ _)
end Go.Proofs.Ytdikekecbapcaaa.WorkV
