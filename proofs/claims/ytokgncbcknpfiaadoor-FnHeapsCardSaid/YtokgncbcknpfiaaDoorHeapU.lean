/- Heaps: takeFrom and l7Take. -/
import Derived.Test.YtokgncbcknpfiaaDoorHeapP
import Derived.Test.YtokgncbcknpfiaaDoorHeap3
namespace Go.Proofs.YtokgncbcknpfiaaDoor.HeapU
open Go.RowKit Go.Proofs.YtokgncbcknpfiaaDoor.Mem Go.Proofs.YtokgncbcknpfiaaDoor.Base Go.Proofs.YtokgncbcknpfiaaDoor.SInt Go.Proofs.YtokgncbcknpfiaaDoor.Boxes Go.Proofs.YtokgncbcknpfiaaDoor.Keep Go.Proofs.YtokgncbcknpfiaaDoor.Regn Go.Proofs.YtokgncbcknpfiaaDoor.Nest Go.Proofs.YtokgncbcknpfiaaDoor.HeapS Go.Proofs.YtokgncbcknpfiaaDoor.HeapW Go.Proofs.YtokgncbcknpfiaaDoor.HeapE Go.Proofs.YtokgncbcknpfiaaDoor.Heap Go.Proofs.YtokgncbcknpfiaaDoor.Heap2 Go.Proofs.YtokgncbcknpfiaaDoor.Heap3 Go.Proofs.YtokgncbcknpfiaaDoor.HeapG Go.Proofs.YtokgncbcknpfiaaDoor.HeapP
set_option linter.unusedVariables false
set_option maxRecDepth 100000
theorem own_take {w : World} {base : Nat} {e : TypeId} {g n cap k : Nat} {xs : List Value} (h : w.ownsRow base e 1 (.slice (some ⟨g, 0, none⟩) n cap) n xs) (hk : k ≤ n) : w.ownsRow base e 1 (.slice (some ⟨g, 0, none⟩) k cap) k (xs.take k) := by
  refine ⟨by rw [List.length_take, h.1]; omega, ?_⟩
  rcases h.2 with ⟨hv, _⟩ | ⟨g', cap', cur, hv, hg, hh, hle, hm, hs, ht⟩
  · cases hv
  · injection hv with h1 h2 h3
    injection h1 with h1
    injection h1 with h1
    subst h1; subst h3
    exact .inr ⟨g, cap, cur, rfl, hg, hh, by omega, hm, hs, by rw [← ht, List.take_take]; congr 1; omega⟩
theorem row_last {w : World} {lo g cap : Nat} {p : List Int} {x : Int} (h : RowOwn w lo ⟨some ⟨g, 0, none⟩, cap, p ++ [x]⟩) : w.cell? ⟨g, p.length, none⟩ = some (.int .i64 x) ∧ w.frozen? ⟨g, p.length, none⟩ = false := by
  refine ⟨?_, World.ownsRow.frozenAt h _⟩
  rw [World.ownsRow.cellAt h p.length (by simp)]
  simp [iv]
theorem row_put {w : World} {lo g cap : Nat} {p : List Int} {x : Int} (h : RowOwn w lo ⟨some ⟨g, 0, none⟩, cap, p ++ [x]⟩) (y : Int) : RowOwn (w.setCell ⟨g, p.length, none⟩ (.int .i64 y)) lo ⟨some ⟨g, 0, none⟩, cap, p ++ [y]⟩ := by
  have h1 := (World.ownsRow.stored h p.length (.int .i64 y)).1
  have e : (iv (p ++ [x])).set p.length (.int .i64 y) = iv (p ++ [y]) := by unfold iv; rw [← List.map_set]; simp
  have h2 : (iv (Row.ls ⟨some ⟨g, 0, none⟩, cap, p ++ [x]⟩)).set p.length (.int .i64 y) = iv (p ++ [y]) := e
  rw [h2] at h1
  have e3 : (p ++ [x]).length = (p ++ [y]).length := by simp
  show (w.setCell ⟨g, p.length, none⟩ (.int .i64 y)).ownsRow lo 3 1 (.slice (some ⟨g, 0, none⟩) (p ++ [y]).length cap) (p ++ [y]).length (iv (p ++ [y]))
  rw [← e3]; exact h1
theorem row_cut {w : World} {lo g cap : Nat} {p : List Int} {x : Int} (h : RowOwn w lo ⟨some ⟨g, 0, none⟩, cap, p ++ [x]⟩) : RowOwn w lo ⟨some ⟨g, 0, none⟩, cap, p⟩ := by
  have h1 := own_take h (k := p.length) (by simp)
  have e : (iv (p ++ [x])).take p.length = iv p := by simp [iv]
  have h2 : (iv (Row.ls ⟨some ⟨g, 0, none⟩, cap, p ++ [x]⟩)).take p.length = iv p := e
  rw [h2] at h1
  exact h1
/-- what is left of a row, in its place. -/
def TkPost (A : Option Addr) (cap : Nat) (ls : List Int) (t : Int) (lo : Nat) (w : World) (e : Ending) (w' : World) : Prop :=
  e = .returned (.slice A (takeL ls t).length cap) ∧ RowOwn w' lo ⟨A, cap, takeL ls t⟩ ∧ w.grownBy w' (Row.blk ⟨A, cap, ls⟩)
set_option maxHeartbeats 1000000 in
theorem take_impl (A : Option Addr) (cap : Nat) (ls : List Int) (t : Int) (lo : Nat) (w : World) (ho : RowOwn w lo ⟨A, cap, ls⟩) (hv : ∀ x ∈ ls, 1 ≤ x ∧ x ≤ 500) (hn : ls.length ≤ 12) (ht : t ≤ 6000) (ht0 : -10 ≤ t) :
    Calls Tryd.prog 39 #[.slice A ls.length cap, .int .i64 t] w (TkPost A cap ls t lo w) := by
  have HO := Lib.hid ho; clear ho
  have HV := Lib.hid hv; clear hv
  go_enter Tryd.func39, Tryd.ntmps39
  go_wp2
  go_loopw [0, 1] (fun u v wr => ∃ (ms : List Int) (s : Int) (n : Nat), u = .slice A n cap ∧ v = .int .i64 s ∧ Hid (ms.length = n) ∧ n ≤ 12 ∧ s ≤ 6000 ∧ -10 ≤ s ∧ Hid (takeL ms s = takeL ls t) ∧ Hid (∀ x ∈ ms, 1 ≤ x ∧ x ≤ 500) ∧ Hid (RowOwn wr lo ⟨A, cap, ms⟩) ∧ Hid (w.grownBy wr (Row.blk ⟨A, cap, ls⟩))) (fun _ v _ => (intOf v).toNat)
  case atStart => exact ⟨ls, t, ls.length, rfl, rfl, Lib.hid rfl, hn, ht, ht0, Lib.hid rfl, HV, HO, Lib.hid (World.grownBy.refl _ _)⟩
  case round =>
    obtain ⟨ms, s, n, rfl, rfl, HM, hn2, hs1, hs0, HT, HV2, HO2, HG⟩ := hrel
    by_cases h0 : 0 < s
    · rcases Nat.eq_zero_or_pos n with h1 | h1
      · subst h1
        have HE := Lib.hid (show takeL ls t = [] by rw [← HT.out, List.eq_nil_of_length_eq_zero HM.out, takeL_nil])
        have HE2 := Lib.hid (List.eq_nil_of_length_eq_zero HM.out)
        go_wp2
        go_ret
        refine ⟨by rw [HE.out]; rfl, ?_, HG.out⟩
        have := HO2.out
        rw [HE.out]; rwa [HE2.out] at this
      · obtain ⟨k, rfl⟩ : ∃ k, n = k + 1 := ⟨n - 1, by omega⟩
        obtain ⟨p, x, hpx, hpk⟩ : ∃ p x, ms = p ++ [x] ∧ p.length = k := ⟨_, _, snoc_of HM.out, by rw [List.length_take, HM.out]; omega⟩
        subst hpx
        subst hpk
        obtain ⟨g, hA⟩ : ∃ g, A = some ⟨g, 0, none⟩ := by
          obtain ⟨g, _, h, _⟩ := own_some HO2.out (by simp); exact ⟨g, h⟩
        subst hA
        obtain ⟨m0, g0⟩ := row_last HO2.out
        have hx := HV2.out x (by simp)
        have HP := Lib.hid (fun y (hy : y ∈ p) => HV2.out y (by simp [hy]))
        have q1 : (0 : Int) < (p.length : Int) + 1 := by omega
        have q2 : IntKind.i64.wrap (p.length : Int) = p.length := IntWalk.i64_in _ (by omega)
        have y1 : IntKind.i64.wrap (x - s) = x - s := IntWalk.i64_in _ (by omega)
        have y2 : IntKind.i64.wrap (s - x) = s - x := IntWalk.i64_in _ (by omega)
        have hcap : p.length + 1 ≤ cap := by have := own_cap (A := some ⟨g, 0, none⟩) (c := cap) (n := (p ++ [x]).length) HO2.out; simpa using this
        have hcap' : p.length ≤ cap := by omega
        have HH0 := Lib.hid h0
        have HS := Lib.hid (And.intro hs0 hs1)
        rcases Int.lt_or_le s x with h2 | h2
        · have hne : (x - s == 0) = false := by rw [beq_eq_false_iff_ne]; omega
          have HN := Lib.hid (show takeL (p ++ [x - s]) 0 = takeL ls t by rw [← HT.out, takeL_part h0 h2, takeL_none (by omega)])
          have HB := Lib.hid (show ∀ y ∈ p ++ [x - s], 1 ≤ y ∧ y ≤ 500 from fun y hy => by
            rcases List.mem_append.1 hy with hy | hy
            · exact HP.out y hy
            · rw [List.mem_singleton.1 hy]; omega)
          go_wp2
          all_goals exact ⟨⟨p ++ [x - s], 0, p.length + 1, rfl, rfl, Lib.hid (by simp), hn2, by omega, by omega, HN, HB, Lib.hid (row_put HO2.out _), Lib.hid (World.grownBy.setOwn (n := ls.length) (c := cap) HG.out _ _)⟩, by have := HH0.out; simp [intOf]; omega⟩
        · have HN := Lib.hid (show takeL p (s - x) = takeL ls t by rw [← HT.out, takeL_all h0 h2])
          have HH2 := Lib.hid (And.intro h2 hx.1)
          rcases Int.lt_or_eq_of_le h2 with h3 | h3
          · have hne : (s - x == 0) = false := by rw [beq_eq_false_iff_ne]; omega
            go_wp2
            all_goals exact ⟨⟨p, s - x, p.length, rfl, rfl, Lib.hid rfl, by omega, by have := HS.out; omega, by have := HH2.out; omega, HN, HP, Lib.hid (row_cut (row_put HO2.out _)), Lib.hid (World.grownBy.setOwn (n := ls.length) (c := cap) HG.out _ _)⟩, by have := HH0.out; have := HH2.out; simp [intOf]; omega⟩
          · subst h3
            have HN2 := Lib.hid (show takeL p 0 = takeL ls t by have := HN.out; rwa [Int.sub_self] at this)
            clear y1 y2
            go_wp2
            all_goals exact ⟨⟨p, 0, p.length, rfl, rfl, Lib.hid rfl, by omega, by omega, by omega, HN2, HP, Lib.hid (row_cut (row_put HO2.out _)), Lib.hid (World.grownBy.setOwn (n := ls.length) (c := cap) HG.out _ _)⟩, by have := HH0.out; simp [intOf]; omega⟩
    · have HE := Lib.hid (show takeL ls t = ms by rw [← HT.out, takeL_none (by omega)])
      have h0' : decide (0 < s) = false := decide_eq_false h0
      have hM := HM.out
      subst hM
      go_wp2
      go_ret
      exact ⟨by rw [HE.out]; rfl, by rw [HE.out]; exact HO2.out, HG.out⟩
/-- what is left, in a row of the call's own. -/
def TsPost (ls : List Int) (t : Int) (w : World) (e : Ending) (w' : World) : Prop :=
  ∃ r : Row, r.ls = takeL ls t ∧ e = .returned (.slice r.A r.ls.length r.cap) ∧ RowOwn w' w.heap.size r ∧ Below w.heap.size w w'
set_option maxHeartbeats 1000000 in
theorem take_spec (A : Option Addr) (cap : Nat) (ls : List Int) (t : Int) (w : World) (hr : Rd w w.heap.size A (iv ls)) (hv : ∀ x ∈ ls, 1 ≤ x ∧ x ≤ 500) (hn : ls.length ≤ 12) (ht : t ≤ 6000) (ht0 : -10 ≤ t) :
    Calls Tryd.prog 47 #[.slice A ls.length cap, .int .i64 t] w (TsPost ls t w) := by
  have HR := Lib.hid hr; clear hr
  have HV := Lib.hid hv; clear hv
  go_enter Tryd.func47, Tryd.ntmps47
  go_wp2_with fail
  refine (own_spec A cap ls w HR.out (by omega)).mono ?_
  rintro e w1 ⟨⟨A, cap, ls'⟩, hl, rfl, ho, hB⟩
  dsimp only at hl ⊢
  subst hl
  have HO := Lib.hid ho; clear ho
  have HB := Lib.hid hB; clear hB
  go_wp2
  go_loopw [5, 1] (fun u v wr => ∃ (ms : List Int) (s : Int) (n : Nat), u = .slice A n cap ∧ v = .int .i64 s ∧ Hid (ms.length = n) ∧ n ≤ 12 ∧ s ≤ 6000 ∧ -10 ≤ s ∧ Hid (takeL ms s = takeL ls' t) ∧ Hid (∀ x ∈ ms, 1 ≤ x ∧ x ≤ 500) ∧ Hid (RowOwn wr w.heap.size ⟨A, cap, ms⟩) ∧ Hid (Below w.heap.size w wr)) (fun _ v _ => (intOf v).toNat)
  case atStart => exact ⟨ls', t, ls'.length, rfl, rfl, Lib.hid rfl, hn, ht, ht0, Lib.hid rfl, HV, HO, HB⟩
  case round =>
    obtain ⟨ms, s, n, rfl, rfl, HM, hn2, hs1, hs0, HT, HV2, HO2, HG⟩ := hrel
    by_cases h0 : 0 < s
    · rcases Nat.eq_zero_or_pos n with h1 | h1
      · subst h1
        have HE := Lib.hid (show takeL ls' t = [] by rw [← HT.out, List.eq_nil_of_length_eq_zero HM.out, takeL_nil])
        have HE2 := Lib.hid (List.eq_nil_of_length_eq_zero HM.out)
        go_wp2
        go_ret
        refine ⟨⟨A, cap, []⟩, HE.out.symm, rfl, ?_, HG.out⟩
        have := HO2.out
        rwa [HE2.out] at this
      · obtain ⟨k, rfl⟩ : ∃ k, n = k + 1 := ⟨n - 1, by omega⟩
        obtain ⟨p, x, hpx, hpk⟩ : ∃ p x, ms = p ++ [x] ∧ p.length = k := ⟨_, _, snoc_of HM.out, by rw [List.length_take, HM.out]; omega⟩
        subst hpx
        subst hpk
        obtain ⟨g, hA⟩ : ∃ g, A = some ⟨g, 0, none⟩ := by
          obtain ⟨g, _, h, _⟩ := own_some HO2.out (by simp); exact ⟨g, h⟩
        subst hA
        obtain ⟨m0, g0⟩ := row_last HO2.out
        have hx := HV2.out x (by simp)
        have HP := Lib.hid (fun y (hy : y ∈ p) => HV2.out y (by simp [hy]))
        have q1 : (0 : Int) < (p.length : Int) + 1 := by omega
        have q2 : IntKind.i64.wrap (p.length : Int) = p.length := IntWalk.i64_in _ (by omega)
        have y1 : IntKind.i64.wrap (x - s) = x - s := IntWalk.i64_in _ (by omega)
        have y2 : IntKind.i64.wrap (s - x) = s - x := IntWalk.i64_in _ (by omega)
        have hcap : p.length + 1 ≤ cap := by have := own_cap (A := some ⟨g, 0, none⟩) (c := cap) (n := (p ++ [x]).length) HO2.out; simpa using this
        have hcap' : p.length ≤ cap := by omega
        have hgb := own_ge HO2.out g rfl
        have HGB := Lib.hid hgb; clear hgb
        have HH0 := Lib.hid h0
        have HS := Lib.hid (And.intro hs0 hs1)
        rcases Int.lt_or_le s x with h2 | h2
        · have hne : (x - s == 0) = false := by rw [beq_eq_false_iff_ne]; omega
          have HN := Lib.hid (show takeL (p ++ [x - s]) 0 = takeL ls' t by rw [← HT.out, takeL_part h0 h2, takeL_none (by omega)])
          have HB := Lib.hid (show ∀ y ∈ p ++ [x - s], 1 ≤ y ∧ y ≤ 500 from fun y hy => by
            rcases List.mem_append.1 hy with hy | hy
            · exact HP.out y hy
            · rw [List.mem_singleton.1 hy]; omega)
          have hle : least s x = s := by unfold least; rw [if_pos h2]
          go_wp2_with (go_at_call 60; (with_reducible refine (least_any _ _ _).mono ?_); rintro e' w' ⟨rfl, rfl⟩; rw [hle])
          all_goals exact ⟨⟨p ++ [x - s], 0, p.length + 1, rfl, rfl, Lib.hid (by simp), hn2, by omega, by omega, HN, HB, Lib.hid (row_put HO2.out _), Lib.hid (HG.out.setCell (p := ⟨g, _, none⟩) HGB.out _)⟩, by have := HH0.out; simp [intOf]; omega⟩
        · have HN := Lib.hid (show takeL p (s - x) = takeL ls' t by rw [← HT.out, takeL_all h0 h2])
          have HH2 := Lib.hid (And.intro h2 hx.1)
          have hle : least s x = x := by unfold least; rw [if_neg (by omega)]
          go_wp2_with (go_at_call 60; (with_reducible refine (least_any _ _ _).mono ?_); rintro e' w' ⟨rfl, rfl⟩; rw [hle])
          all_goals exact ⟨⟨p, s - x, p.length, rfl, rfl, Lib.hid rfl, by omega, by have := HS.out; omega, by have := HH2.out; omega, HN, HP, Lib.hid (row_cut (row_put HO2.out _)), Lib.hid (HG.out.setCell (p := ⟨g, _, none⟩) HGB.out _)⟩, by have := HH0.out; have := HH2.out; simp [intOf]; omega⟩
    · have HE := Lib.hid (show takeL ls' t = ms by rw [← HT.out, takeL_none (by omega)])
      have h0' : decide (0 < s) = false := decide_eq_false h0
      have hM := HM.out
      subst hM
      go_wp2
      go_ret
      exact ⟨⟨A, cap, ms⟩, HE.out.symm, rfl, HO2.out, HG.out⟩
end Go.Proofs.YtokgncbcknpfiaaDoor.HeapU
