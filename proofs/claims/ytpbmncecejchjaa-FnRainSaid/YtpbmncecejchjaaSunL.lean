/- Suns: the rate on a day, the sum within days. -/
import Derived.Test.YtpbmncecejchjaaSunG
namespace Go.Proofs.Ytpbmncecejchjaa.SunL
open Go.RowKit Go.Proofs.Ytpbmncecejchjaa.Mem Go.Proofs.Ytpbmncecejchjaa.Base Go.Proofs.Ytpbmncecejchjaa.Within Go.Proofs.Ytpbmncecejchjaa.SSun Go.Proofs.Ytpbmncecejchjaa.Regn Go.Proofs.Ytpbmncecejchjaa.Boxes Go.Proofs.Ytpbmncecejchjaa.Keep Go.Proofs.Ytpbmncecejchjaa.Sun Go.Proofs.Ytpbmncecejchjaa.SunS Go.Proofs.Ytpbmncecejchjaa.SunG
set_option linter.unusedVariables false
set_option maxRecDepth 100000
/-- a number, and the world as it was. -/
def IPost (n : Int) (w : World) (e : Ending) (w' : World) : Prop := e = .returned (.int .i64 n) ∧ w = w'
theorem ipost {n m : Int} {w : World} (h : m = n) : IPost n w (.returned (.int .i64 m)) w := ⟨by rw [h], rfl⟩
theorem on_spec (P : Option Addr) (cap : Nat) (l : List R) (d : Int) (w : World) (hr : Rd w w.heap.size P (flat l)) (hn : l.length ≤ 1048576) :
    Calls Try.prog 95 #[.slice P l.length cap, .int .i64 d] w (IPost (on l d) w) := by
  have HR := Lib.hid hr; clear hr
  go_enter Try.func95, Try.ntmps95
  go_wp2
  go_loopw [5] (fun i wr => ∃ k : Nat, k ≤ l.length ∧ i = .int .i64 k ∧ Hid (Not l d k) ∧ wr = w) (fun i _ => l.length - (intOf i).toNat)
  case atStart => exact ⟨0, Nat.zero_le _, rfl, Lib.hid (fun j _ hj => by omega), rfl⟩
  case round =>
    obtain ⟨k, hk, rfl, HN, rfl⟩ := hrel
    by_cases hlt : k < l.length
    · obtain ⟨b, o, rfl, hb, hc⟩ := HR.out.at (k := k * 2) (by rw [flat_n]; omega)
      obtain ⟨x, hx⟩ : ∃ x, l[k] = x := ⟨_, rfl⟩
      obtain ⟨h0, h1⟩ := cells2 (Below.refl _ _) hb hc hlt hx
      have HL := Lib.hid hlt
      clear hc
      cases he : (x.f0 == d)
      · have HN1 := Lib.hid (HN.out.next hlt (by rw [hx]; exact beq_eq_false_iff_ne.1 he)); clear hx
        go_wp2
        go_roundw
        case rel => exact ⟨k + 1, HL.out, by go_num, HN1, trivial⟩
        case measure => have := HL.out; simp [intOf]; omega
      · have HF := Lib.hid (on_at hlt HN.out hx (eq_of_beq he)); clear hx
        go_wp2
        go_ret
        exact ipost HF.out.symm
    · have HF := Lib.hid (on_none (l := l) (d := d) (fun j hj _ => HN.out j hj (by omega)))
      go_wp2
      go_ret
      exact ipost HF.out.symm
set_option maxHeartbeats 400000 in
theorem sum_impl (P : Option Addr) (cap : Nat) (l : List R) (a b : Int) (w : World) (hr : Rd w w.heap.size P (flat l)) (hs : Sane l) :
    Calls Try.prog 90 #[.slice P l.length cap, .int .i64 a, .int .i64 b] w (RPost (.int .i64 (sumF l a b)) w) := by
  have HR := Lib.hid hr; clear hr
  have HS := Lib.hid hs
  have hn := hs.1; clear hs
  go_enter Try.func90, Try.ntmps90
  go_wp2
  go_loopw [7, 12] (fun s i wr => ∃ (k : Nat) (q : Int), k ≤ l.length ∧ i = .int .i64 k ∧ s = .int .i64 q ∧ Hid (sumF (l.take k) a b = q) ∧ 0 ≤ q ∧ q ≤ 400000 ∧ Below w.heap.size w wr) (fun _ i _ => l.length - (intOf i).toNat)
  case atStart => exact ⟨0, 0, Nat.zero_le _, rfl, rfl, Lib.hid (sum_zero l a b), by omega, by omega, Below.refl _ _⟩
  case round =>
    obtain ⟨k, q, hk, rfl, rfl, HQ, q0, q1, HB⟩ := hrel
    by_cases hlt : k < l.length
    · obtain ⟨b', o, rfl, hb, hc⟩ := HR.out.at (k := k * 2) (by rw [flat_n]; omega)
      obtain ⟨x, hx⟩ : ∃ x, l[k] = x := ⟨_, rfl⟩
      obtain ⟨h0, h1⟩ := cells2 HB hb hc hlt hx
      have HL := Lib.hid hlt
      have HX := Lib.hid (HS.out.get hlt hx)
      clear hc
      cases he : inB x.f0 a b
      · have HN1 := Lib.hid ((sum_skip hlt hx he).trans HQ.out); clear hx
        go_wp2_with (go_at_call 78; (with_reducible refine (within_any _ _ _ _).mono ?_); rintro e' w' ⟨rfl, rfl⟩)
        go_roundw
        case rel => exact ⟨k + 1, q, HL.out, by go_num, rfl, HN1, q0, q1, al HB⟩
        case measure => have := HL.out; simp [intOf]; omega
      · have HN1 := Lib.hid ((sum_yes hlt hx he).trans (by rw [HQ.out])); clear hx
        have hx1 := HX.out
        have hq2 := (HS.out.take (k + 1)).sum a b
        rw [HN1.out] at hq2
        have y1 : IntKind.i64.wrap (q + x.f1) = q + x.f1 := IntWalk.i64_in _ (by omega)
        have HQ2 := Lib.hid hq2; clear hq2 hx1
        go_wp2_with (go_at_call 78; (with_reducible refine (within_any _ _ _ _).mono ?_); rintro e' w' ⟨rfl, rfl⟩)
        go_roundw
        case rel => exact ⟨k + 1, q + x.f1, HL.out, by go_num, rfl, HN1, HQ2.out.1, HQ2.out.2, al HB⟩
        case measure => have := HL.out; simp [intOf]; omega
    · have HF := Lib.hid (show sumF l a b = q by have := HQ.out; rwa [List.take_of_length_le (by omega)] at this)
      go_wp2
      go_ret
      exact rpost (by rw [HF.out] <;> rfl) HB
end Go.Proofs.Ytpbmncecejchjaa.SunL
