/- PondAt, BankOf, OuterBank: the model's and the program's. -/
import Derived.Test.YtfngglnjdeajfaaIPond2
namespace Go.Proofs.Ytfngglnjdeajfaa.Pond5
open Go.RowKit Go.Proofs.Ytfngglnjdeajfaa.Mem Go.Proofs.Ytfngglnjdeajfaa.Base Go.Proofs.Ytfngglnjdeajfaa.Within Go.Proofs.Ytfngglnjdeajfaa.SPond Go.Proofs.Ytfngglnjdeajfaa.Regn Go.Proofs.Ytfngglnjdeajfaa.Boxes Go.Proofs.Ytfngglnjdeajfaa.Pond Go.Proofs.Ytfngglnjdeajfaa.Pond2 Go.Proofs.Ytfngglnjdeajfaa.Pond3 Go.Proofs.Ytfngglnjdeajfaa.Pond4 Go.Proofs.Ytfngglnjdeajfaa.IPond Go.Proofs.Ytfngglnjdeajfaa.IPond2
set_option linter.unusedVariables false
set_option maxRecDepth 100000
theorem ispond_spec (x : R) (w : World) : Calls Try.prog 35 #[.agg #[.int .i64 x.f0, .int .i64 x.f1, .int .i64 x.f2, .int .i64 x.f3, .int .i64 x.f4, .int .i64 x.f5]] w (RPost (.bool (okP x)) w) := by
  go_enter Try.func35, Try.ntmps35
  go_wp2_with fail
  have B := Box.new (Below.refl _ w) [.int .i64 x.f0, .int .i64 x.f1, .int .i64 x.f2, .int .i64 x.f3, .int .i64 x.f4, .int .i64 x.f5] 34 (g := w.heap.size) rfl
  generalize (w.alloc (.cells #[.int .i64 x.f0, .int .i64 x.f1, .int .i64 x.f2, .int .i64 x.f3, .int .i64 x.f4, .int .i64 x.f5] 34)) = W1 at B ⊢
  have B_0 := B.cells 0 _ rfl
  have B_1 := B.cells 1 _ rfl
  have B_2 := B.cells 2 _ rfl
  have B_3 := B.cells 3 _ rfl
  have B_4 := B.cells 4 _ rfl
  have B_5 := B.cells 5 _ rfl
  have B_f0 := B.free 0 (by simp)
  have B_f1 := B.free 1 (by simp)
  have B_f2 := B.free 2 (by simp)
  have B_f3 := B.free 3 (by simp)
  have B_f4 := B.free 4 (by simp)
  have B_f5 := B.free 5 (by simp)
  have B_t := B.there
  go_wp2_with fail
  refine (one_spec x.f0 x.f1 x.f2 x.f3 x.f4 x.f5 _).mono ?_
  rintro e v2 ⟨rfl, hv2⟩
  clear B_0 B_1 B_2 B_3 B_4 B_5 B_f0 B_f1 B_f2 B_f3 B_f4 B_f5 B_t
  replace B := B.more hv2
  have zhv2 := hv2.size
  clear hv2
  have B_0 := B.cells 0 _ rfl
  have B_1 := B.cells 1 _ rfl
  have B_2 := B.cells 2 _ rfl
  have B_3 := B.cells 3 _ rfl
  have B_4 := B.cells 4 _ rfl
  have B_5 := B.cells 5 _ rfl
  have B_f0 := B.free 0 (by simp)
  have B_f1 := B.free 1 (by simp)
  have B_f2 := B.free 2 (by simp)
  have B_f3 := B.free 3 (by simp)
  have B_f4 := B.free 4 (by simp)
  have B_f5 := B.free 5 (by simp)
  have B_t := B.there
  go_wp2
  go_ret
  exact rpost rfl B.below
theorem are_spec (P : Option Addr) (cap : Nat) (l : List R) (w : World) (hr : Rd w w.heap.size P (flat l)) (hn : l.length ≤ 1048576) :
    Calls Try.prog 51 #[.slice P l.length cap] w (RPost (.bool (good l)) w) := by
  go_enter Try.func51, Try.ntmps51
  go_wp2_with fail
  refine (good_spec P cap l w hr hn).mono ?_
  rintro e w1 ⟨rfl, HB⟩
  go_wp2
  go_ret
  exact rpost rfl HB
def inP (x : R) (u v : Int) : Bool := inB u x.f1 (x.f1 + x.f3 - 1) && inB v x.f2 (x.f2 + x.f4 - 1)
def first (l : List R) (u v : Int) : Int := match l.find? (fun x => inP x u v) with | some x => x.f0 | none => 0
def atV (l : List R) (u v : Int) : Value := if (good l && inB u 0 49 && inB v 0 49) = true then .tuple #[.int .i64 (first l u v), .bool true] else .tuple #[.int .i64 0, .bool false]
theorem at_no {l : List R} {u v : Int} (h : (good l && inB u 0 49 && inB v 0 49) = false) : atV l u v = .tuple #[.int .i64 0, .bool false] := by unfold atV; rw [h]; rfl
theorem at_yes {l : List R} {u v f : Int} (h : (good l && inB u 0 49 && inB v 0 49) = true) (hf : first l u v = f) : atV l u v = .tuple #[.int .i64 f, .bool true] := by unfold atV; rw [if_pos h, hf]
def Off (l : List R) (u v : Int) (k : Nat) : Prop := ∀ j (h : j < l.length), j < k → inP l[j] u v = false
theorem Off.next {l : List R} {u v : Int} {k : Nat} (h : Off l u v k) (hk : k < l.length) (he : inP l[k] u v = false) : Off l u v (k + 1) := fun j hj hj2 => by
  rcases Nat.lt_or_ge j k with h1 | h1
  · exact h j hj h1
  · have : j = k := by omega
    subst this; exact he
theorem first_at {l : List R} {u v : Int} {k : Nat} (hk : k < l.length) (h : Off l u v k) (he : inP l[k] u v = true) : first l u v = l[k].f0 := by
  unfold first
  have : l.find? (fun x => inP x u v) = some l[k] := by
    rw [List.find?_eq_some_iff_getElem]
    exact ⟨he, k, hk, rfl, fun j hj => by simpa using h j (by omega) hj⟩
  rw [this]
theorem first_none {l : List R} {u v : Int} (h : Off l u v l.length) : first l u v = 0 := by
  unfold first
  have : l.find? (fun x => inP x u v) = none := by
    rw [List.find?_eq_none]
    intro x hx
    obtain ⟨j, hj, rfl⟩ := List.getElem_of_mem hx
    simpa using h j hj hj
  rw [this]
set_option maxHeartbeats 1000000 in
theorem at_spec (P : Option Addr) (cap : Nat) (l : List R) (u v : Int) (w : World) (hr : Rd w w.heap.size P (flat l)) (hn : l.length ≤ 1048576) :
    Calls Try.prog 32 #[.slice P l.length cap, .int .i64 u, .int .i64 v] w (RPost (atV l u v) w) := by
  have HR := Lib.hid hr; clear hr
  go_enter Try.func32, Try.ntmps32
  go_wp2_with fail
  refine (good_spec P cap l w HR.out hn).mono ?_
  rintro e w1 ⟨rfl, HB0⟩
  cases hg : good l
  · have HV := Lib.hid (at_no (l := l) (u := u) (v := v) (by rw [hg]; rfl))
    go_wp2
    go_ret2
    exact rpost (by rw [HV.out] <;> rfl) HB0
  go_wp2_with fail
  refine (in_any u 0 49 _).mono ?_
  rintro e _ ⟨rfl, rfl⟩
  cases h1 : inB u 0 49
  · have HV := Lib.hid (at_no (l := l) (u := u) (v := v) (by rw [hg, h1]; rfl))
    go_wp2
    go_ret2
    exact rpost (by rw [HV.out] <;> rfl) HB0
  go_wp2_with fail
  refine (in_any v 0 49 _).mono ?_
  rintro e _ ⟨rfl, rfl⟩
  cases h2 : inB v 0 49
  · have HV := Lib.hid (at_no (l := l) (u := u) (v := v) (by rw [hg, h1, h2]; rfl))
    go_wp2
    go_ret2
    exact rpost (by rw [HV.out] <;> rfl) HB0
  have HV := Lib.hid (fun f (hf : first l u v = f) => at_yes (l := l) (by rw [hg, h1, h2]; rfl) hf)
  have HG := Lib.hid (good_all hg)
  clear hg h1 h2
  go_wp2
  go_loopw [8] (fun i wr => ∃ k : Nat, k ≤ l.length ∧ i = .int .i64 k ∧ Hid (Off l u v k) ∧ Below w.heap.size w wr) (fun i _ => l.length - (intOf i).toNat)
  case atStart => exact ⟨0, Nat.zero_le _, rfl, Lib.hid (fun j _ hj => by omega), HB0⟩
  case round =>
    clear HB0
    obtain ⟨k, hk, rfl, HN, HB0⟩ := hrel
    by_cases hlt : k < l.length
    · obtain ⟨b, o, rfl, hb, hc⟩ := HR.out.at (k := k * 6) (by rw [flat_n]; omega)
      obtain ⟨x, hx⟩ : ∃ x, l[k] = x := ⟨_, rfl⟩
      obtain ⟨h0, h1, h2, h3, h4, h5⟩ := cells6 HB0 hb hc hlt hx
      have HX := Lib.hid hx; clear hc
      have hox := HG.out.2 k hlt
      rw [hx] at hox
      clear hx
      have HL := Lib.hid hlt
      obtain ⟨_, _, a1, a2, a3, a4, a5, a6, a7, a8, _, _, a9, a10⟩ := okP_true hox
      have y1 : IntKind.i64.wrap (x.f1 + x.f3) = x.f1 + x.f3 := IntWalk.i64_in _ (by omega)
      have y2 : IntKind.i64.wrap (x.f1 + x.f3 - 1) = x.f1 + x.f3 - 1 := IntWalk.i64_in _ (by omega)
      have y3 : IntKind.i64.wrap (x.f2 + x.f4) = x.f2 + x.f4 := IntWalk.i64_in _ (by omega)
      have y4 : IntKind.i64.wrap (x.f2 + x.f4 - 1) = x.f2 + x.f4 - 1 := IntWalk.i64_in _ (by omega)
      clear a1 a2 a3 a4 a5 a6 a7 a8 a9 a10 hox
      have HI := Lib.hid (show inP l[k] u v = (inB u x.f1 (x.f1 + x.f3 - 1) && inB v x.f2 (x.f2 + x.f4 - 1)) from congrArg (fun x => inP x u v) HX.out)
      go_wp2_with fail
      have B := Box.new HB0 [.int .i64 x.f0, .int .i64 x.f1, .int .i64 x.f2, .int .i64 x.f3, .int .i64 x.f4, .int .i64 x.f5] 34 (g := wr.heap.size) rfl
      generalize (wr.alloc (.cells #[.int .i64 x.f0, .int .i64 x.f1, .int .i64 x.f2, .int .i64 x.f3, .int .i64 x.f4, .int .i64 x.f5] 34)) = W1 at B ⊢
      have B_0 := B.cells 0 _ rfl
      have B_1 := B.cells 1 _ rfl
      have B_2 := B.cells 2 _ rfl
      have B_3 := B.cells 3 _ rfl
      have B_4 := B.cells 4 _ rfl
      have B_5 := B.cells 5 _ rfl
      have B_f0 := B.free 0 (by simp)
      have B_f1 := B.free 1 (by simp)
      have B_f2 := B.free 2 (by simp)
      have B_f3 := B.free 3 (by simp)
      have B_f4 := B.free 4 (by simp)
      have B_f5 := B.free 5 (by simp)
      have B_t := B.there
      clear h0 h1 h2 h3 h4 h5
      go_wp2_with fail
      refine (in_any u x.f1 (x.f1 + x.f3 - 1) _).mono ?_
      rintro e _ ⟨rfl, rfl⟩
      cases c1 : inB u x.f1 (x.f1 + x.f3 - 1)
      · have HN1 := Lib.hid (HN.out.next HL.out (HI.out.trans (by rw [c1]; rfl)))
        go_wp2
        go_roundw
        case rel => exact ⟨k + 1, HL.out, by go_num, HN1, B.below⟩
        case measure => have := HL.out; simp [intOf]; omega
      go_wp2_with fail
      refine (in_any v x.f2 (x.f2 + x.f4 - 1) _).mono ?_
      rintro e _ ⟨rfl, rfl⟩
      cases c2 : inB v x.f2 (x.f2 + x.f4 - 1)
      · have HN1 := Lib.hid (HN.out.next HL.out (HI.out.trans (by rw [c1, c2]; rfl)))
        go_wp2
        go_roundw
        case rel => exact ⟨k + 1, HL.out, by go_num, HN1, B.below⟩
        case measure => have := HL.out; simp [intOf]; omega
      have HF := Lib.hid ((first_at HL.out HN.out (HI.out.trans (by rw [c1, c2]; rfl))).trans (congrArg R.f0 HX.out))
      go_wp2
      go_ret2
      exact rpost (by rw [HV.out _ HF.out] <;> rfl) B.below
    · obtain rfl : k = l.length := by omega
      have HF := Lib.hid (first_none HN.out)
      go_wp2
      go_ret2
      exact rpost (by rw [HV.out _ HF.out] <;> rfl) HB0
set_option maxHeartbeats 1000000 in
theorem at_impl (P : Option Addr) (cap : Nat) (l : List R) (u v : Int) (w : World) (hr : Rd w w.heap.size P (flat l)) (hcap : l.length ≤ cap) (hn : l.length ≤ 1048576) :
    Calls Try.prog 31 #[.slice P l.length cap, .int .i64 u, .int .i64 v] w (RPost (atV l u v) w) := by
  have HR := Lib.hid hr; clear hr
  go_enter Try.func31, Try.ntmps31
  go_wp2_with fail
  refine (are_impl P cap l w HR.out hcap hn).mono ?_
  rintro e w1 ⟨rfl, HB0⟩
  cases hg : good l
  · have HV := Lib.hid (at_no (l := l) (u := u) (v := v) (by rw [hg]; rfl))
    go_wp2
    go_ret2
    exact rpost (by rw [HV.out] <;> rfl) HB0
  go_wp2_with fail
  refine (within_any u 0 49 _).mono ?_
  rintro e _ ⟨rfl, rfl⟩
  cases h1 : inB u 0 49
  · have HV := Lib.hid (at_no (l := l) (u := u) (v := v) (by rw [hg, h1]; rfl))
    go_wp2
    go_ret2
    exact rpost (by rw [HV.out] <;> rfl) HB0
  go_wp2_with fail
  refine (within_any v 0 49 _).mono ?_
  rintro e _ ⟨rfl, rfl⟩
  cases h2 : inB v 0 49
  · have HV := Lib.hid (at_no (l := l) (u := u) (v := v) (by rw [hg, h1, h2]; rfl))
    go_wp2
    go_ret2
    exact rpost (by rw [HV.out] <;> rfl) HB0
  have HV := Lib.hid (fun f (hf : first l u v = f) => at_yes (l := l) (by rw [hg, h1, h2]; rfl) hf)
  have HG := Lib.hid (good_all hg)
  clear hg h1 h2
  go_wp2
  go_loopw [25] (fun i wr => ∃ k : Nat, k ≤ l.length ∧ i = .int .i64 k ∧ Hid (Off l u v k) ∧ Below w.heap.size w wr) (fun i _ => l.length - (intOf i).toNat)
  case atStart => exact ⟨0, Nat.zero_le _, rfl, Lib.hid (fun j _ hj => by omega), HB0⟩
  case round =>
    clear HB0
    obtain ⟨k, hk, rfl, HN, HB0⟩ := hrel
    by_cases hlt : k < l.length
    · obtain ⟨b, o, rfl, hb, hc⟩ := HR.out.at (k := k * 6) (by rw [flat_n]; omega)
      obtain ⟨x, hx⟩ : ∃ x, l[k] = x := ⟨_, rfl⟩
      obtain ⟨h0, h1, h2, h3, h4, h5⟩ := cells6 HB0 hb hc hlt hx
      have HX := Lib.hid hx; clear hc
      have hox := HG.out.2 k hlt
      rw [hx] at hox
      clear hx
      have HL := Lib.hid hlt
      obtain ⟨_, _, a1, a2, a3, a4, a5, a6, a7, a8, _, _, a9, a10⟩ := okP_true hox
      have y1 : IntKind.i64.wrap (x.f1 + x.f3) = x.f1 + x.f3 := IntWalk.i64_in _ (by omega)
      have y2 : IntKind.i64.wrap (x.f1 + x.f3 - 1) = x.f1 + x.f3 - 1 := IntWalk.i64_in _ (by omega)
      have y3 : IntKind.i64.wrap (x.f2 + x.f4) = x.f2 + x.f4 := IntWalk.i64_in _ (by omega)
      have y4 : IntKind.i64.wrap (x.f2 + x.f4 - 1) = x.f2 + x.f4 - 1 := IntWalk.i64_in _ (by omega)
      clear a1 a2 a3 a4 a5 a6 a7 a8 a9 a10 hox
      have HI := Lib.hid (show inP l[k] u v = (inB u x.f1 (x.f1 + x.f3 - 1) && inB v x.f2 (x.f2 + x.f4 - 1)) from congrArg (fun x => inP x u v) HX.out)
      go_wp2_with fail
      have B := Box.new HB0 [.int .i64 x.f0, .int .i64 x.f1, .int .i64 x.f2, .int .i64 x.f3, .int .i64 x.f4, .int .i64 x.f5] 34 (g := wr.heap.size) rfl
      generalize (wr.alloc (.cells #[.int .i64 x.f0, .int .i64 x.f1, .int .i64 x.f2, .int .i64 x.f3, .int .i64 x.f4, .int .i64 x.f5] 34)) = W1 at B ⊢
      have B_0 := B.cells 0 _ rfl
      have B_1 := B.cells 1 _ rfl
      have B_2 := B.cells 2 _ rfl
      have B_3 := B.cells 3 _ rfl
      have B_4 := B.cells 4 _ rfl
      have B_5 := B.cells 5 _ rfl
      have B_f0 := B.free 0 (by simp)
      have B_f1 := B.free 1 (by simp)
      have B_f2 := B.free 2 (by simp)
      have B_f3 := B.free 3 (by simp)
      have B_f4 := B.free 4 (by simp)
      have B_f5 := B.free 5 (by simp)
      have B_t := B.there
      clear h0 h1 h2 h3 h4 h5
      go_wp2_with fail
      refine (within_any u x.f1 (x.f1 + x.f3 - 1) _).mono ?_
      rintro e _ ⟨rfl, rfl⟩
      cases c1 : inB u x.f1 (x.f1 + x.f3 - 1)
      · have HN1 := Lib.hid (HN.out.next HL.out (HI.out.trans (by rw [c1]; rfl)))
        go_wp2
        go_roundw
        case rel => exact ⟨k + 1, HL.out, by go_num, HN1, B.below⟩
        case measure => have := HL.out; simp [intOf]; omega
      go_wp2_with fail
      refine (within_any v x.f2 (x.f2 + x.f4 - 1) _).mono ?_
      rintro e _ ⟨rfl, rfl⟩
      cases c2 : inB v x.f2 (x.f2 + x.f4 - 1)
      · have HN1 := Lib.hid (HN.out.next HL.out (HI.out.trans (by rw [c1, c2]; rfl)))
        go_wp2
        go_roundw
        case rel => exact ⟨k + 1, HL.out, by go_num, HN1, B.below⟩
        case measure => have := HL.out; simp [intOf]; omega
      have HF := Lib.hid ((first_at HL.out HN.out (HI.out.trans (by rw [c1, c2]; rfl))).trans (congrArg R.f0 HX.out))
      go_wp2
      go_ret2
      exact rpost (by rw [HV.out _ HF.out] <;> rfl) B.below
    · obtain rfl : k = l.length := by omega
      have HF := Lib.hid (first_none HN.out)
      go_wp2
      go_ret2
      exact rpost (by rw [HV.out _ HF.out] <;> rfl) HB0
end Go.Proofs.Ytfngglnjdeajfaa.Pond5
