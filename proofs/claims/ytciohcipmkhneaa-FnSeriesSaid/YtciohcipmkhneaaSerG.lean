/- Series: l8Good and IsSeries, the copies, the sums. -/
import Derived.Test.YtciohcipmkhneaaSer
import Derived.Test.YtciohcipmkhneaaWithin
import Derived.Test.YtciohcipmkhneaaRegn2
import Derived.Test.YtciohcipmkhneaaKeep
namespace Go.Proofs.Ytciohcipmkhneaa.SerG
open Go.RowKit Go.Proofs.Ytciohcipmkhneaa.Mem Go.Proofs.Ytciohcipmkhneaa.Base Go.Proofs.Ytciohcipmkhneaa.Within Go.Proofs.Ytciohcipmkhneaa.Brine Go.Proofs.Ytciohcipmkhneaa.Brine2 Go.Proofs.Ytciohcipmkhneaa.Brine6 Go.Proofs.Ytciohcipmkhneaa.Regn Go.Proofs.Ytciohcipmkhneaa.Boxes Go.Proofs.Ytciohcipmkhneaa.Keep Go.Proofs.Ytciohcipmkhneaa.Ser
open Go.Proofs.Ytciohcipmkhneaa.SBasin hiding RPost rpost
set_option linter.unusedVariables false
set_option maxRecDepth 100000
theorem cells3 {w W : World} {b o k : Nat} {l : List R} {x : R} (HB : Below w.heap.size w W) (hb : b < w.heap.size) (hc : ∀ (j : Nat) (v : Value), (flat l)[j]? = some v → w.cell? ⟨b, o + j, none⟩ = some v) (hlt : k < l.length) (hx : l[k] = x) :
    W.cell? ⟨b, o + k * 3, none⟩ = some (.int .i64 x.f0) ∧ W.cell? ⟨b, o + k * 3 + 1, none⟩ = some (.int .i64 x.f1) ∧ W.cell? ⟨b, o + k * 3 + 2, none⟩ = some (.int .i64 x.f2) := by
  subst hx
  exact ⟨((bcell HB).1 _ _ hb).trans (hc _ _ (flat_0 l k hlt)), ((bcell HB).1 _ _ hb).trans (hc _ _ (flat_1 l k hlt)), ((bcell HB).1 _ _ hb).trans (hc _ _ (flat_2 l k hlt))⟩
set_option maxHeartbeats 800000 in
theorem good_spec (P : Option Addr) (cap : Nat) (l : List R) (w : World) (hr : Rd w w.heap.size P (flat l)) (hn : l.length ≤ 1048576) :
    Calls Try.prog 79 #[.slice P l.length cap] w (RPost (.bool (good l)) w) := by
  have HR := Lib.hid hr; clear hr
  go_enter Try.func79, Try.ntmps79
  go_wp2
  go_loopw [3] (fun i wr => ∃ k : Nat, k ≤ l.length ∧ i = .int .i64 k ∧ Hid (Ok l k) ∧ Below w.heap.size w wr) (fun i _ => l.length - (intOf i).toNat)
  case atStart => exact ⟨0, Nat.zero_le _, rfl, Lib.hid (fun j _ hj => by omega), Below.refl _ _⟩
  case round =>
    obtain ⟨k, hk, rfl, HOK, HB⟩ := hrel
    by_cases hlt : k < l.length
    · obtain ⟨b, o, rfl, hb, hc⟩ := HR.out.at (k := k * 3) (by rw [flat_n]; omega)
      obtain ⟨x, hx⟩ : ∃ x, l[k] = x := ⟨_, rfl⟩
      obtain ⟨h0, h1, h2⟩ := cells3 HB hb hc hlt hx
      have HX := Lib.hid hx; clear hx
      have HL := Lib.hid hlt
      clear hc
      cases ha : inB x.f0 1 100000
      · go_wp2_with fail
        refine (in_any _ _ _ _).mono ?_
        rintro e _ ⟨rfl, rfl⟩
        rw [ha]
        go_wp2
        go_ret
        exact rpost (by rw [good_no HL.out (by rw [HX.out]; exact bad_area ha)] <;> rfl) HB
      cases hbr : okB x.f1 x.f2
      · go_wp2_with fail
        refine (in_any _ _ _ _).mono ?_
        rintro e _ ⟨rfl, rfl⟩
        rw [ha]
        go_wp2_with fail
        refine (brine_spec _ _ _).mono ?_
        rintro e v3 ⟨rfl, hv3⟩
        replace HB := be HB hv3
        have zhv3 := hv3.size
        rw [hbr]
        go_wp2
        go_ret
        exact rpost (by rw [good_no HL.out (by rw [HX.out]; exact bad_brine hbr)] <;> rfl) HB
      · have HN := Lib.hid (HOK.out.next HL.out (by rw [HX.out]; exact ok_both ha hbr))
        go_wp2_with fail
        refine (in_any _ _ _ _).mono ?_
        rintro e _ ⟨rfl, rfl⟩
        rw [ha]
        go_wp2_with fail
        refine (brine_spec _ _ _).mono ?_
        rintro e v5 ⟨rfl, hv5⟩
        replace HB := be HB hv5
        have zhv5 := hv5.size
        rw [hbr]
        go_wp2
        go_roundw
        case rel => exact ⟨k + 1, HL.out, by go_num, HN, HB⟩
        case measure => have := HL.out; simp [intOf]; omega
    · have HE := Lib.hid (good_end HOK.out (show l.length ≤ k by omega))
      go_wp2_with (go_at_call 89; (with_reducible refine (in_any _ _ _ _).mono ?_); rintro e' w' ⟨rfl, rfl⟩)
      go_ret
      exact rpost (by rw [HE.out] <;> rfl) HB
set_option maxHeartbeats 800000 in
theorem good_impl (P : Option Addr) (cap : Nat) (l : List R) (w : World) (hr : Rd w w.heap.size P (flat l)) (hn : l.length ≤ 1048576) :
    Calls Try.prog 21 #[.slice P l.length cap] w (RPost (.bool (good l)) w) := by
  have HR := Lib.hid hr; clear hr
  cases h8 : inB (l.length : Int) 1 8
  · have HE := Lib.hid (good_long h8)
    go_enter Try.func21, Try.ntmps21
    go_wp2_with (go_at_call 82; (with_reducible refine (within_any _ _ _ _).mono ?_); rintro e' w' ⟨rfl, rfl⟩)
    go_ret
    exact rpost (by rw [HE.out] <;> rfl) (Below.refl _ _)
  go_enter Try.func21, Try.ntmps21
  go_wp2_with (go_at_call 82; (with_reducible refine (within_any _ _ _ _).mono ?_); rintro e' w' ⟨rfl, rfl⟩)
  go_loopw [11] (fun i wr => ∃ k : Nat, k ≤ l.length ∧ i = .int .i64 k ∧ Hid (Ok l k) ∧ Below w.heap.size w wr) (fun i _ => l.length - (intOf i).toNat)
  case atStart => exact ⟨0, Nat.zero_le _, rfl, Lib.hid (fun j _ hj => by omega), Below.refl _ _⟩
  case round =>
    obtain ⟨k, hk, rfl, HOK, HB0⟩ := hrel
    by_cases hlt : k < l.length
    · obtain ⟨b, o, rfl, hb, hc⟩ := HR.out.at (k := k * 3) (by rw [flat_n]; omega)
      obtain ⟨x, hx⟩ : ∃ x, l[k] = x := ⟨_, rfl⟩
      obtain ⟨h0, h1, h2⟩ := cells3 HB0 hb hc hlt hx
      have HX := Lib.hid hx; clear hx
      have HL := Lib.hid hlt
      clear hc
      go_wp2_with fail
      have B := Box.new HB0 [.int .i64 x.f0, .int .i64 x.f1, .int .i64 x.f2] 50 (g := wr.heap.size) rfl
      generalize (wr.alloc (.cells #[.int .i64 x.f0, .int .i64 x.f1, .int .i64 x.f2] 50)) = W1 at B ⊢
      have B_0 := B.cells 0 _ rfl
      have B_1 := B.cells 1 _ rfl
      have B_2 := B.cells 2 _ rfl
      have B_f0 := B.free 0 (by simp)
      have B_f1 := B.free 1 (by simp)
      have B_f2 := B.free 2 (by simp)
      have B_t := B.there
      clear h0 h1 h2
      cases ha : inB x.f0 1 100000
      · go_wp2_with fail
        refine (within_any _ _ _ _).mono ?_
        rintro e _ ⟨rfl, rfl⟩
        rw [ha]
        go_wp2
        go_ret
        exact rpost (by rw [good_no HL.out (by rw [HX.out]; exact bad_area ha)] <;> rfl) B.below
      cases hbr : okB x.f1 x.f2
      · go_wp2_with fail
        refine (within_any _ _ _ _).mono ?_
        rintro e _ ⟨rfl, rfl⟩
        rw [ha]
        go_wp2_with fail
        refine (IBrine.brine_impl _ _ _).mono ?_
        rintro e v4 ⟨rfl, hv4⟩
        clear B_0 B_1 B_2 B_f0 B_f1 B_f2 B_t
        replace B := B.more hv4
        have zhv4 := hv4.size
        clear hv4
        have B_0 := B.cells 0 _ rfl
        have B_1 := B.cells 1 _ rfl
        have B_2 := B.cells 2 _ rfl
        have B_f0 := B.free 0 (by simp)
        have B_f1 := B.free 1 (by simp)
        have B_f2 := B.free 2 (by simp)
        have B_t := B.there
        rw [hbr]
        go_wp2
        go_ret
        exact rpost (by rw [good_no HL.out (by rw [HX.out]; exact bad_brine hbr)] <;> rfl) B.below
      · have HN := Lib.hid (HOK.out.next HL.out (by rw [HX.out]; exact ok_both ha hbr))
        go_wp2_with fail
        refine (within_any _ _ _ _).mono ?_
        rintro e _ ⟨rfl, rfl⟩
        rw [ha]
        go_wp2_with fail
        refine (IBrine.brine_impl _ _ _).mono ?_
        rintro e v6 ⟨rfl, hv6⟩
        clear B_0 B_1 B_2 B_f0 B_f1 B_f2 B_t
        replace B := B.more hv6
        have zhv6 := hv6.size
        clear hv6
        have B_0 := B.cells 0 _ rfl
        have B_1 := B.cells 1 _ rfl
        have B_2 := B.cells 2 _ rfl
        have B_f0 := B.free 0 (by simp)
        have B_f1 := B.free 1 (by simp)
        have B_f2 := B.free 2 (by simp)
        have B_t := B.there
        rw [hbr]
        go_wp2
        go_roundw
        case rel => exact ⟨k + 1, HL.out, by go_num, HN, B.below⟩
        case measure => have := HL.out; simp [intOf]; omega
    · have HE := Lib.hid ((good_end HOK.out (show l.length ≤ k by omega)).trans h8)
      go_wp2
      go_ret
      exact rpost (by rw [HE.out] <;> rfl) HB0
end Go.Proofs.Ytciohcipmkhneaa.SerG
