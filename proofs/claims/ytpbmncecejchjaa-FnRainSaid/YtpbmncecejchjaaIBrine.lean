/- The program's functions on brines. -/
import Derived.Test.YtpbmncecejchjaaBrine6
import Derived.Test.YtpbmncecejchjaaSBrine
namespace Go.Proofs.Ytpbmncecejchjaa.IBrine
open Go.RowKit Go.Proofs.Ytpbmncecejchjaa.Mem Go.Proofs.Ytpbmncecejchjaa.Base Go.Proofs.Ytpbmncecejchjaa.Brine Go.Proofs.Ytpbmncecejchjaa.Brine2 Go.Proofs.Ytpbmncecejchjaa.Regn Go.Proofs.Ytpbmncecejchjaa.Boxes
set_option linter.unusedVariables false
set_option maxRecDepth 100000
abbrev R := SBrine.R

theorem within_any (x a b : Int) (w : World) :
    Calls Try.prog 78 #[.int .i64 x, .int .i64 a, .int .i64 b] w (BPost (inB x a b) w) := by
  by_cases h1 : a ≤ x
  · by_cases h2 : x ≤ b
    · have hb := Lib.hid (inB_true ⟨h1, h2⟩)
      go_enter Try.func78, Try.ntmps78
      go_wp2
      go_ret
      exact bpost hb.out.symm
    · have hb := Lib.hid (inB_false (fun h : a ≤ x ∧ x ≤ b => h2 h.2))
      have h2' : decide (x ≤ b) = false := decide_eq_false h2
      go_enter Try.func78, Try.ntmps78
      go_wp2
      go_ret
      exact bpost hb.out.symm
  · have hb := Lib.hid (inB_false (fun h : a ≤ x ∧ x ≤ b => h1 h.1))
    have h1' : decide (a ≤ x) = false := decide_eq_false h1
    go_enter Try.func78, Try.ntmps78
    go_wp2
    go_ret
    exact bpost hb.out.symm
theorem brine_impl (a b : Int) (w : World) : Calls Try.prog 77 #[.agg #[.int .i64 a, .int .i64 b]] w (RPost (.bool (okB a b)) w) := by
  cases h1 : inB a 0 1000000
  all_goals
    have H := Lib.hid (show okB a b = (inB a 0 1000000 && inB b 0 1000000) from rfl)
    go_enter Try.func77, Try.ntmps77
    go_wp2_with (go_at_call 78; refine (within_any _ _ _ _).mono ?_; rintro e w' ⟨rfl, rfl⟩)
    go_ret
    exact rpost (by rw [H.out, h1]; rfl) (al (Below.refl _ _))
theorem mass_impl (a b : Int) (ha : 0 ≤ a) (ha1 : a ≤ 1000000) (hb : 0 ≤ b) (hb1 : b ≤ 1000000) (w : World) : Calls Try.prog 136 #[.agg #[.int .i64 a, .int .i64 b]] w (RPost (.int .i64 (a + b)) w) := by
  go_enter Try.func136, Try.ntmps136
  go_wp2
  go_ret
  exact rpost rfl (al (Below.refl _ _))

def okM (x : R) : Bool := okB x.f0 x.f1 && !(x.f0 + x.f1 == 0)
theorem all_snoc (l : List R) (k : Nat) (h : k < l.length) (p : R → Bool) (h0 : (l.take k).all p = true) : (l.take (k + 1)).all p = p l[k] := by
  rw [List.take_succ_eq_append_getElem h, List.all_append, h0]; simp
theorem not_all (l : List R) (k : Nat) (h : k < l.length) (p : R → Bool) (h0 : p l[k] = false) : l.all p = false := by
  rw [List.all_eq_false]; exact ⟨l[k], List.getElem_mem h, by simp [h0]⟩
theorem okM_true {a b : Int} (h : okM ⟨a, b⟩ = true) : okB a b = true ∧ ¬ (a + b = 0) := by
  unfold okM at h; simpa using h
theorem okM_false {a b : Int} (h : okM ⟨a, b⟩ = false) : okB a b = true → a + b = 0 := by
  intro h1; unfold okM at h; simpa [h1] using h
theorem all1 (x : R) (p : R → Bool) : [x].all p = p x := by simp
theorem all2 (x y : R) (p : R → Bool) : [x, y].all p = (p x && p y) := by simp
end Go.Proofs.Ytpbmncecejchjaa.IBrine
