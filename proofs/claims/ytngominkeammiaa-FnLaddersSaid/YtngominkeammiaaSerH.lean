/- Series: l8Good and IsSeries alone (out of Ser and SerG), for seats that hold no more of chapter 8. -/
import Derived.Test.YtngominkeammiaaSBasin
import Derived.Test.YtngominkeammiaaBrine
import Derived.Test.YtngominkeammiaaIBrine
import Derived.Test.YtngominkeammiaaWithin
import Derived.Test.YtngominkeammiaaRegn2
import Derived.Test.YtngominkeammiaaKeep
namespace Go.Proofs.Ytngominkeammiaa.SerH
open Go.RowKit Go.Proofs.Ytngominkeammiaa.Mem Go.Proofs.Ytngominkeammiaa.Base Go.Proofs.Ytngominkeammiaa.Within Go.Proofs.Ytngominkeammiaa.Brine Go.Proofs.Ytngominkeammiaa.Regn Go.Proofs.Ytngominkeammiaa.Boxes Go.Proofs.Ytngominkeammiaa.Keep
open Go.Proofs.Ytngominkeammiaa.SBasin hiding RPost rpost
set_option linter.unusedVariables false
set_option linter.unusedSimpArgs false
set_option maxRecDepth 100000
def okA (x : R) : Bool := inB x.f0 1 100000 && okB x.f1 x.f2
def good (l : List R) : Bool := l.all okA && inB (l.length : Int) 1 8
theorem okB_mk {a b : Int} (h : 0 ≤ a ∧ a ≤ 1000000 ∧ 0 ≤ b ∧ b ≤ 1000000) : okB a b = true := by
  unfold okB; rw [inB_true (by omega), inB_true (by omega)]; rfl
theorem okA_true {x : R} (h : okA x = true) : 1 ≤ x.f0 ∧ x.f0 ≤ 100000 ∧ 0 ≤ x.f1 ∧ x.f1 ≤ 1000000 ∧ 0 ≤ x.f2 ∧ x.f2 ≤ 1000000 := by
  unfold okA at h
  rw [Bool.and_eq_true] at h
  have h1 := of_inB h.1; have h2 := okB_true h.2; omega
theorem okA_brine {x : R} (h : okA x = true) : okB x.f1 x.f2 = true := by
  unfold okA at h
  rw [Bool.and_eq_true] at h
  exact h.2
theorem bad_area {x : R} (h : inB x.f0 1 100000 = false) : okA x = false := by unfold okA; rw [h]; rfl
theorem bad_brine {x : R} (h : okB x.f1 x.f2 = false) : okA x = false := by unfold okA; rw [h, Bool.and_false]
theorem ok_both {x : R} (h : inB x.f0 1 100000 = true) (h1 : okB x.f1 x.f2 = true) : okA x = true := by unfold okA; rw [h, h1]; rfl
def Ok (l : List R) (k : Nat) : Prop := ∀ j (h : j < l.length), j < k → okA l[j] = true
theorem Ok.next {l : List R} {k : Nat} (h : Ok l k) (hk : k < l.length) (ho : okA l[k] = true) : Ok l (k + 1) := fun j hj hj2 => by
  rcases Nat.lt_or_ge j k with h1 | h1
  · exact h j hj h1
  · have : j = k := by omega
    subst this; exact ho
theorem good_no {l : List R} {k : Nat} (hk : k < l.length) (h : okA l[k] = false) : good l = false := by
  unfold good
  rw [Bool.and_eq_false_iff]; left
  rw [List.all_eq_false]
  exact ⟨l[k], List.getElem_mem hk, by simp [h]⟩
theorem good_end {l : List R} {k : Nat} (h : Ok l k) (hk : l.length ≤ k) : good l = inB (l.length : Int) 1 8 := by
  unfold good
  rw [List.all_eq_true.2 (fun x hx => ?_), Bool.true_and]
  obtain ⟨j, hj, rfl⟩ := List.getElem_of_mem hx
  exact h j hj (by omega)
theorem good_long {l : List R} (h : inB (l.length : Int) 1 8 = false) : good l = false := by unfold good; rw [h, Bool.and_false]
theorem good_all {l : List R} (h : good l = true) : 1 ≤ l.length ∧ l.length ≤ 8 ∧ ∀ x ∈ l, okA x = true := by
  unfold good at h
  rw [Bool.and_eq_true] at h
  have := of_inB h.2
  exact ⟨by omega, by omega, List.all_eq_true.1 h.1⟩
theorem good_mk {l : List R} (h0 : 1 ≤ l.length) (h1 : l.length ≤ 8) (h : ∀ x ∈ l, okA x = true) : good l = true := by
  unfold good
  rw [List.all_eq_true.2 h, inB_true (by omega)]; rfl
theorem good_get {l : List R} (h : good l = true) {k : Nat} {x : R} (hk : k < l.length) (hx : l[k] = x) : okA x = true := (good_all h).2.2 x (by rw [← hx]; exact List.getElem_mem hk)
theorem getD_at {l : List R} {k : Nat} (h : k < l.length) : l.getD k zero = l[k] := by simp [List.getD, h]

theorem cells3 {w W : World} {b o k : Nat} {l : List R} {x : R} (HB : Below w.heap.size w W) (hb : b < w.heap.size) (hc : ∀ (j : Nat) (v : Value), (flat l)[j]? = some v → w.cell? ⟨b, o + j, none⟩ = some v) (hlt : k < l.length) (hx : l[k] = x) :
    W.cell? ⟨b, o + k * 3, none⟩ = some (.int .i64 x.f0) ∧ W.cell? ⟨b, o + k * 3 + 1, none⟩ = some (.int .i64 x.f1) ∧ W.cell? ⟨b, o + k * 3 + 2, none⟩ = some (.int .i64 x.f2) := by
  subst hx
  exact ⟨((bcell HB).1 _ _ hb).trans (hc _ _ (flat_0 l k hlt)), ((bcell HB).1 _ _ hb).trans (hc _ _ (flat_1 l k hlt)), ((bcell HB).1 _ _ hb).trans (hc _ _ (flat_2 l k hlt))⟩
set_option maxHeartbeats 800000 in
theorem good_spec (P : Option Addr) (cap : Nat) (l : List R) (w : World) (hr : Rd w w.heap.size P (flat l)) (hn : l.length ≤ 1048576) :
    Calls Try.prog 90 #[.slice P l.length cap] w (RPost (.bool (good l)) w) := by
  have HR := Lib.hid hr; clear hr
  go_enter Try.func90, Try.ntmps90
  go_wp2
  go_loopw [3] (fun i wr => ∃ k : Nat, k ≤ l.length ∧ i = .int .i64 k ∧ Hid (Ok l k) ∧ Below w.heap.size w wr) (fun i _ => l.length - (intOf i).toNat)
  case atStart => exact ⟨0, Nat.zero_le _, rfl, Lib.hid (fun j _ hj => by omega), Below.refl _ _⟩
  case round =>
    obtain ⟨k, hk, rfl, HOK, HB⟩ := hrel
    by_cases hlt : k < l.length
    · obtain ⟨b, o, rfl, hb, hc⟩ := HR.out.at (k := k * 3) (by rw [flat_n]; omega)
      obtain ⟨x, hx⟩ : ∃ x, l[k] = x := ⟨_, rfl⟩
      obtain ⟨h0, h1, h2⟩ := cells3 HB hb hc hlt hx
      have HX := Lib.hid hx; clear hx
      have HL := Lib.hid hlt
      clear hc
      cases ha : inB x.f0 1 100000
      · go_wp2_with fail
        refine (in_any _ _ _ _).mono ?_
        rintro e _ ⟨rfl, rfl⟩
        rw [ha]
        go_wp2
        go_ret
        exact rpost (by rw [good_no HL.out (by rw [HX.out]; exact bad_area ha)] <;> rfl) HB
      cases hbr : okB x.f1 x.f2
      · go_wp2_with fail
        refine (in_any _ _ _ _).mono ?_
        rintro e _ ⟨rfl, rfl⟩
        rw [ha]
        go_wp2_with fail
        refine (brine_spec _ _ _).mono ?_
        rintro e v3 ⟨rfl, hv3⟩
        replace HB := be HB hv3
        have zhv3 := hv3.size
        rw [hbr]
        go_wp2
        go_ret
        exact rpost (by rw [good_no HL.out (by rw [HX.out]; exact bad_brine hbr)] <;> rfl) HB
      · have HN := Lib.hid (HOK.out.next HL.out (by rw [HX.out]; exact ok_both ha hbr))
        go_wp2_with fail
        refine (in_any _ _ _ _).mono ?_
        rintro e _ ⟨rfl, rfl⟩
        rw [ha]
        go_wp2_with fail
        refine (brine_spec _ _ _).mono ?_
        rintro e v5 ⟨rfl, hv5⟩
        replace HB := be HB hv5
        have zhv5 := hv5.size
        rw [hbr]
        go_wp2
        go_roundw
        case rel => exact ⟨k + 1, HL.out, by go_num, HN, HB⟩
        case measure => have := HL.out; simp [intOf]; omega
    · have HE := Lib.hid (good_end HOK.out (show l.length ≤ k by omega))
      go_wp2_with (go_at_call 82; (with_reducible refine (in_any _ _ _ _).mono ?_); rintro e' w' ⟨rfl, rfl⟩)
      go_ret
      exact rpost (by rw [HE.out] <;> rfl) HB
set_option maxHeartbeats 800000 in
theorem good_impl (P : Option Addr) (cap : Nat) (l : List R) (w : World) (hr : Rd w w.heap.size P (flat l)) (hn : l.length ≤ 1048576) :
    Calls Try.prog 73 #[.slice P l.length cap] w (RPost (.bool (good l)) w) := by
  have HR := Lib.hid hr; clear hr
  cases h8 : inB (l.length : Int) 1 8
  · have HE := Lib.hid (good_long h8)
    go_enter Try.func73, Try.ntmps73
    go_wp2_with (go_at_call 61; (with_reducible refine (within_any _ _ _ _).mono ?_); rintro e' w' ⟨rfl, rfl⟩)
    go_ret
    exact rpost (by rw [HE.out] <;> rfl) (Below.refl _ _)
  go_enter Try.func73, Try.ntmps73
  go_wp2_with (go_at_call 61; (with_reducible refine (within_any _ _ _ _).mono ?_); rintro e' w' ⟨rfl, rfl⟩)
  go_loopw [11] (fun i wr => ∃ k : Nat, k ≤ l.length ∧ i = .int .i64 k ∧ Hid (Ok l k) ∧ Below w.heap.size w wr) (fun i _ => l.length - (intOf i).toNat)
  case atStart => exact ⟨0, Nat.zero_le _, rfl, Lib.hid (fun j _ hj => by omega), Below.refl _ _⟩
  case round =>
    obtain ⟨k, hk, rfl, HOK, HB0⟩ := hrel
    by_cases hlt : k < l.length
    · obtain ⟨b, o, rfl, hb, hc⟩ := HR.out.at (k := k * 3) (by rw [flat_n]; omega)
      obtain ⟨x, hx⟩ : ∃ x, l[k] = x := ⟨_, rfl⟩
      obtain ⟨h0, h1, h2⟩ := cells3 HB0 hb hc hlt hx
      have HX := Lib.hid hx; clear hx
      have HL := Lib.hid hlt
      clear hc
      go_wp2_with fail
      have B := Box.new HB0 [.int .i64 x.f0, .int .i64 x.f1, .int .i64 x.f2] 94 (g := wr.heap.size) rfl
      generalize (wr.alloc (.cells #[.int .i64 x.f0, .int .i64 x.f1, .int .i64 x.f2] 94)) = W1 at B ⊢
      have B_0 := B.cells 0 _ rfl
      have B_1 := B.cells 1 _ rfl
      have B_2 := B.cells 2 _ rfl
      have B_f0 := B.free 0 (by simp)
      have B_f1 := B.free 1 (by simp)
      have B_f2 := B.free 2 (by simp)
      have B_t := B.there
      clear h0 h1 h2
      cases ha : inB x.f0 1 100000
      · go_wp2_with fail
        refine (within_any _ _ _ _).mono ?_
        rintro e _ ⟨rfl, rfl⟩
        rw [ha]
        go_wp2
        go_ret
        exact rpost (by rw [good_no HL.out (by rw [HX.out]; exact bad_area ha)] <;> rfl) B.below
      cases hbr : okB x.f1 x.f2
      · go_wp2_with fail
        refine (within_any _ _ _ _).mono ?_
        rintro e _ ⟨rfl, rfl⟩
        rw [ha]
        go_wp2_with fail
        refine (IBrine.brine_impl _ _ _).mono ?_
        rintro e v4 ⟨rfl, hv4⟩
        clear B_0 B_1 B_2 B_f0 B_f1 B_f2 B_t
        replace B := B.more hv4
        have zhv4 := hv4.size
        clear hv4
        have B_0 := B.cells 0 _ rfl
        have B_1 := B.cells 1 _ rfl
        have B_2 := B.cells 2 _ rfl
        have B_f0 := B.free 0 (by simp)
        have B_f1 := B.free 1 (by simp)
        have B_f2 := B.free 2 (by simp)
        have B_t := B.there
        rw [hbr]
        go_wp2
        go_ret
        exact rpost (by rw [good_no HL.out (by rw [HX.out]; exact bad_brine hbr)] <;> rfl) B.below
      · have HN := Lib.hid (HOK.out.next HL.out (by rw [HX.out]; exact ok_both ha hbr))
        go_wp2_with fail
        refine (within_any _ _ _ _).mono ?_
        rintro e _ ⟨rfl, rfl⟩
        rw [ha]
        go_wp2_with fail
        refine (IBrine.brine_impl _ _ _).mono ?_
        rintro e v6 ⟨rfl, hv6⟩
        clear B_0 B_1 B_2 B_f0 B_f1 B_f2 B_t
        replace B := B.more hv6
        have zhv6 := hv6.size
        clear hv6
        have B_0 := B.cells 0 _ rfl
        have B_1 := B.cells 1 _ rfl
        have B_2 := B.cells 2 _ rfl
        have B_f0 := B.free 0 (by simp)
        have B_f1 := B.free 1 (by simp)
        have B_f2 := B.free 2 (by simp)
        have B_t := B.there
        rw [hbr]
        go_wp2
        go_roundw
        case rel => exact ⟨k + 1, HL.out, by go_num, HN, B.below⟩
        case measure => have := HL.out; simp [intOf]; omega
    · have HE := Lib.hid ((good_end HOK.out (show l.length ≤ k by omega)).trans h8)
      go_wp2
      go_ret
      exact rpost (by rw [HE.out] <;> rfl) HB0
end Go.Proofs.Ytngominkeammiaa.SerH
