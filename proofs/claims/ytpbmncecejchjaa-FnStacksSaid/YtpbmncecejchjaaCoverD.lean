/- slices.SortStableFunc over a row of at most 19 numbers: one insertion sort. -/
import Derived.Test.YtpbmncecejchjaaCoverC
namespace Go.Proofs.Ytpbmncecejchjaa.CoverD
open Go.RowKit Go.Proofs.Ytpbmncecejchjaa.Mem Go.Proofs.Ytpbmncecejchjaa.Base Go.Proofs.Ytpbmncecejchjaa.SInt Go.Proofs.Ytpbmncecejchjaa.Boxes Go.Proofs.Ytpbmncecejchjaa.Keep Go.Proofs.Ytpbmncecejchjaa.Nest Go.Proofs.Ytpbmncecejchjaa.HeapS Go.Proofs.Ytpbmncecejchjaa.Heap Go.Proofs.Ytpbmncecejchjaa.HeapG Go.Proofs.Ytpbmncecejchjaa.Cover Go.Proofs.Ytpbmncecejchjaa.Cover2 Go.Proofs.Ytpbmncecejchjaa.CoverC
set_option linter.unusedVariables false
set_option maxRecDepth 100000
set_option maxHeartbeats 800000 in
theorem stable_any (T B c : Nat) (A0 : Option Addr) (m : List R) (g2 c2 : Nat) (l : List Nat) (w : World) (he : Env w T B A0 c m) (hok : ∀ x ∈ pl m, okLs x.ls = true) (hl : ∀ i ∈ l, i < m.length) (hn : l.length ≤ 19)
    (ho : w.ownsRow T 3 1 (.slice (some ⟨g2, 0, none⟩) l.length c2) l.length (nv l)) :
    Calls Try.prog 145 #[.slice (some ⟨g2, 0, none⟩) l.length c2, .int .i64 l.length, .func (.func 124) #[] #[.pointer (some ⟨B, 0, none⟩)]] w (SoPost T g2 c2 l (sortI (ltK (pl m)) l) w) := by
  have HI := Lib.hid (ins_any T B c A0 m g2 c2 l w he hok hl (by omega) ho)
  have d1 : decide ((20 : Int) ≤ l.length) = false := decide_eq_false (by omega)
  have d2 : decide ((20 : Int) < l.length) = false := decide_eq_false (by omega)
  have d3 : decide (20 ≤ l.length) = false := decide_eq_false (by omega)
  have d4 : decide (20 < l.length) = false := decide_eq_false (by omega)
  clear he hok hl ho
  go_enter Try.func145, Try.ntmps145
  go_wp2
  go_loopw [7, 8] (fun u v wr => u = .int .i64 0 ∧ v = .int .i64 20 ∧ w = wr) (fun _ _ _ => 0)
  case atStart => exact ⟨rfl, rfl, rfl⟩
  case round =>
    obtain ⟨rfl, rfl, rfl⟩ := hrel
    go_wp2_with fail
    refine HI.out.mono ?_
    rintro e w1 ⟨⟨v, rfl⟩, O, HB⟩
    have HO := Lib.hid O; clear O
    go_wp2
    go_loopw [6] (fun u wr => u = .int .i64 20 ∧ w1 = wr) (fun _ _ => 0)
    case atStart => exact ⟨rfl, rfl⟩
    case round =>
      obtain ⟨rfl, rfl⟩ := hrel
      go_wp2
      go_end0
      exact ⟨⟨_, rfl⟩, HO.out, HB⟩
theorem sort_any (T B c : Nat) (A0 : Option Addr) (m : List R) (g2 c2 : Nat) (l : List Nat) (w : World) (he : Env w T B A0 c m) (hok : ∀ x ∈ pl m, okLs x.ls = true) (hl : ∀ i ∈ l, i < m.length) (hn : l.length ≤ 19)
    (ho : w.ownsRow T 3 1 (.slice (some ⟨g2, 0, none⟩) l.length c2) l.length (nv l)) :
    Calls Try.prog 123 #[.slice (some ⟨g2, 0, none⟩) l.length c2, .func (.func 124) #[] #[.pointer (some ⟨B, 0, none⟩)]] w (SoPost T g2 c2 l (sortI (ltK (pl m)) l) w) := by
  have HI := Lib.hid (stable_any T B c A0 m g2 c2 l w he hok hl hn ho)
  clear he hok hl ho
  go_enter Try.func123, Try.ntmps123
  go_wp2_with fail
  refine HI.out.mono ?_
  rintro e w1 ⟨⟨v, rfl⟩, O, HB⟩
  have HO := Lib.hid O; clear O
  go_wp2
  go_end0
  exact ⟨⟨_, rfl⟩, HO.out, HB⟩
end Go.Proofs.Ytpbmncecejchjaa.CoverD
