/- Suns: the small functions of the model and of the program. -/
import Derived.Test.YtpbmncecejchjaaSun
import Derived.Test.YtpbmncecejchjaaWithin
import Derived.Test.YtpbmncecejchjaaRegn2
import Derived.Test.YtpbmncecejchjaaKeep
namespace Go.Proofs.Ytpbmncecejchjaa.SunS
open Go.RowKit Go.Proofs.Ytpbmncecejchjaa.Mem Go.Proofs.Ytpbmncecejchjaa.Base Go.Proofs.Ytpbmncecejchjaa.Within Go.Proofs.Ytpbmncecejchjaa.SSun Go.Proofs.Ytpbmncecejchjaa.Regn Go.Proofs.Ytpbmncecejchjaa.Boxes Go.Proofs.Ytpbmncecejchjaa.Keep Go.Proofs.Ytpbmncecejchjaa.Sun
set_option linter.unusedVariables false
set_option maxRecDepth 100000
theorem cells2 {w W : World} {b o k : Nat} {l : List R} {x : R} (HB : Below w.heap.size w W) (hb : b < w.heap.size) (hc : ∀ (j : Nat) (v : Value), (flat l)[j]? = some v → w.cell? ⟨b, o + j, none⟩ = some v) (hlt : k < l.length) (hx : l[k] = x) :
    W.cell? ⟨b, o + k * 2, none⟩ = some (.int .i64 x.f0) ∧ W.cell? ⟨b, o + k * 2 + 1, none⟩ = some (.int .i64 x.f1) := by
  subst hx
  exact ⟨((bcell HB).1 _ _ hb).trans (hc _ _ (flat_0 l k hlt)), ((bcell HB).1 _ _ hb).trans (hc _ _ (flat_1 l k hlt))⟩
theorem day_spec (x : Int) (w : World) : Calls Try.prog 93 #[.int .i64 x] w (BPost (inB x 0 4000) w) := by
  go_enter Try.func93, Try.ntmps93
  go_wp2_with (go_at_call 82; (with_reducible refine (in_any _ _ _ _).mono ?_); rintro e' w' ⟨rfl, rfl⟩)
  go_ret
  exact bpost rfl
theorem one_impl (x : R) (w : World) : Calls Try.prog 135 #[.agg #[.int .i64 x.f0, .int .i64 x.f1]] w (RPost (.bool (okS x)) w) := by
  have HG := Lib.hid (show okS x = (inB x.f0 0 4000 && inB x.f1 0 20000) from rfl)
  cases h0 : inB x.f0 0 4000
  all_goals
    go_enter Try.func135, Try.ntmps135
    go_wp2_with (go_at_call 78; (with_reducible refine (within_any _ _ _ _).mono ?_); rintro e' w' ⟨rfl, rfl⟩)
    go_ret
    exact rpost (by rw [HG.out, h0] <;> rfl) (al (Below.refl _ _))
end Go.Proofs.Ytpbmncecejchjaa.SunS
