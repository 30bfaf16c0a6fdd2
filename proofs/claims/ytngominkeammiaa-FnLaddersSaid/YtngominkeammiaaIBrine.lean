/- The program's functions on brines. -/
import Derived.Test.YtngominkeammiaaBrine6
import Derived.Test.YtngominkeammiaaSBrine
namespace Go.Proofs.Ytngominkeammiaa.IBrine
open Go.RowKit Go.Proofs.Ytngominkeammiaa.Mem Go.Proofs.Ytngominkeammiaa.Base Go.Proofs.Ytngominkeammiaa.Brine Go.Proofs.Ytngominkeammiaa.Brine2 Go.Proofs.Ytngominkeammiaa.Regn Go.Proofs.Ytngominkeammiaa.Boxes
set_option linter.unusedVariables false
set_option maxRecDepth 100000
abbrev R := SBrine.R

theorem within_any (x a b : Int) (w : World) :
    Calls Try.prog 61 #[.int .i64 x, .int .i64 a, .int .i64 b] w (BPost (inB x a b) w) := by
  by_cases h1 : a ≤ x
  · by_cases h2 : x ≤ b
    · have hb := Lib.hid (inB_true ⟨h1, h2⟩)
      go_enter Try.func61, Try.ntmps61
      go_wp2
      go_ret
      exact bpost hb.out.symm
    · have hb := Lib.hid (inB_false (fun h : a ≤ x ∧ x ≤ b => h2 h.2))
      have h2' : decide (x ≤ b) = false := decide_eq_false h2
      go_enter Try.func61, Try.ntmps61
      go_wp2
      go_ret
      exact bpost hb.out.symm
  · have hb := Lib.hid (inB_false (fun h : a ≤ x ∧ x ≤ b => h1 h.1))
    have h1' : decide (a ≤ x) = false := decide_eq_false h1
    go_enter Try.func61, Try.ntmps61
    go_wp2
    go_ret
    exact bpost hb.out.symm
theorem brine_impl (a b : Int) (w : World) : Calls Try.prog 64 #[.agg #[.int .i64 a, .int .i64 b]] w (RPost (.bool (okB a b)) w) := by
  cases h1 : inB a 0 1000000
  all_goals
    have H := Lib.hid (show okB a b = (inB a 0 1000000 && inB b 0 1000000) from rfl)
    go_enter Try.func64, Try.ntmps64
    go_wp2_with (go_at_call 61; refine (within_any _ _ _ _).mono ?_; rintro e w' ⟨rfl, rfl⟩)
    go_ret
    exact rpost (by rw [H.out, h1]; rfl) (al (Below.refl _ _))
theorem mass_impl (a b : Int) (ha : 0 ≤ a) (ha1 : a ≤ 1000000) (hb : 0 ≤ b) (hb1 : b ≤ 1000000) (w : World) : Calls Try.prog 77 #[.agg #[.int .i64 a, .int .i64 b]] w (RPost (.int .i64 (a + b)) w) := by
  go_enter Try.func77, Try.ntmps77
  go_wp2
  go_ret
  exact rpost rfl (al (Below.refl _ _))

def okM (x : R) : Bool := okB x.f0 x.f1 && !(x.f0 + x.f1 == 0)
theorem all_snoc (l : List R) (k : Nat) (h : k < l.length) (p : R → Bool) (h0 : (l.take k).all p = true) : (l.take (k + 1)).all p = p l[k] := by
  rw [List.take_succ_eq_append_getElem h, List.all_append, h0]; simp
theorem not_all (l : List R) (k : Nat) (h : k < l.length) (p : R → Bool) (h0 : p l[k] = false) : l.all p = false := by
  rw [List.all_eq_false]; exact ⟨l[k], List.getElem_mem h, by simp [h0]⟩
theorem okM_true {a b : Int} (h : okM ⟨a, b⟩ = true) : okB a b = true ∧ ¬ (a + b = 0) := by
  unfold okM at h; simpa using h
theorem okM_false {a b : Int} (h : okM ⟨a, b⟩ = false) : okB a b = true → a + b = 0 := by
  intro h1; unfold okM at h; simpa [h1] using h
theorem all1 (x : R) (p : R → Bool) : [x].all p = p x := by simp
theorem all2 (x y : R) (p : R → Bool) : [x, y].all p = (p x && p y) := by simp
set_option maxHeartbeats 400000 in
theorem have_any (P : Option Addr) (cap : Nat) (l : List R) (w : World) (hr : Rd w w.heap.size P (SBrine.flat l)) (hn : l.length ≤ 1000) :
    Calls Try.prog 91 #[.slice P l.length cap] w (RPost (.bool (l.all okM)) w) := by
  have HR := Lib.hid hr; clear hr
  go_enter Try.func91, Try.ntmps91
  go_wp2
  go_loopw [7] (fun i wr => ∃ k : Nat, k ≤ l.length ∧ i = .int .i64 k ∧ (l.take k).all okM = true ∧ Below w.heap.size w wr) (fun i _ => l.length - (intOf i).toNat)
  case atStart => exact ⟨0, Nat.zero_le _, rfl, by simp, Below.refl _ _⟩
  case round =>
    obtain ⟨k, hk, rfl, hall, HB0⟩ := hrel
    have HA := Lib.hid hall; clear hall
    by_cases hlt : k < l.length
    · obtain ⟨b, o, rfl, hb, hc⟩ := HR.out.at (k := k * 2) (by rw [SBrine.flat_n]; omega)
      have h0 : wr.cell? ⟨b, o + k * 2, none⟩ = some (.int .i64 l[k].f0) := ((bcell HB0).1 _ _ hb).trans (hc _ _ (SBrine.flat_0 l k hlt))
      have h1 : wr.cell? ⟨b, o + k * 2 + 1, none⟩ = some (.int .i64 l[k].f1) := ((bcell HB0).1 _ _ hb).trans (hc _ _ (SBrine.flat_1 l k hlt))
      clear hc
      have HK := Lib.hid (show okM l[k] = (okB l[k].f0 l[k].f1 && !(l[k].f0 + l[k].f1 == 0)) from rfl)
      have HN := Lib.hid (fun h : okM l[k] = false => not_all l k hlt okM h)
      have HS := Lib.hid (all_snoc l k hlt okM HA.out)
      generalize okM l[k] = q at HK HN HS
      generalize l[k].f0 = x at h0 h1 HK ⊢
      generalize l[k].f1 = y at h0 h1 HK ⊢
      go_wp2_with fail
      have B := Box.new HB0 [.int .i64 x, .int .i64 y] 32 (g := wr.heap.size) rfl
      generalize (wr.alloc (.cells #[.int .i64 x, .int .i64 y] 32)) = W1 at B ⊢
      have B_0 := B.cells 0 _ rfl
      have B_1 := B.cells 1 _ rfl
      have B_f0 := B.free 0 (by simp)
      have B_f1 := B.free 1 (by simp)
      have B_t := B.there
      clear h0 h1
      go_wp2_with fail
      refine (brine_impl x y _).mono ?_
      rintro e v2 ⟨rfl, hv2⟩
      clear B_0 B_1 B_f0 B_f1 B_t
      replace B := B.more hv2
      have zhv2 := hv2.size
      clear hv2
      have B_0 := B.cells 0 _ rfl
      have B_1 := B.cells 1 _ rfl
      have B_f0 := B.free 0 (by simp)
      have B_f1 := B.free 1 (by simp)
      have B_t := B.there
      cases hok : okB x y
      · go_wp2
        go_ret
        exact rpost (by rw [HN.out (by rw [HK.out, hok]; rfl)] <;> rfl) B.below
      obtain ⟨hx, hx1, hy, hy1⟩ := okB_true hok
      go_wp2_with fail
      refine (mass_impl x y hx hx1 hy hy1 _).mono ?_
      rintro e v3 ⟨rfl, hv3⟩
      clear B_0 B_1 B_f0 B_f1 B_t
      replace B := B.more hv3
      have zhv3 := hv3.size
      clear hv3
      have B_0 := B.cells 0 _ rfl
      have B_1 := B.cells 1 _ rfl
      have B_f0 := B.free 0 (by simp)
      have B_f1 := B.free 1 (by simp)
      have B_t := B.there
      by_cases hz : x + y = 0
      · go_wp2
        go_ret
        exact rpost (by rw [HN.out (by rw [HK.out, hz]; simp)] <;> rfl) B.below
      · go_wp2
        go_roundw
        case rel => exact ⟨k + 1, by omega, by go_num, by rw [HS.out, HK.out, hok]; simp [hz], B.below⟩
        case measure => simp [intOf]; omega
    · go_wp2
      go_ret
      exact rpost (by have := HA.out; rw [List.take_of_length_le (by omega)] at this; rw [this] <;> rfl) HB0
end Go.Proofs.Ytngominkeammiaa.IBrine
