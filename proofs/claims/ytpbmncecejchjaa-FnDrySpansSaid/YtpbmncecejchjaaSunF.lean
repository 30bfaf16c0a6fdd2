/- Suns: who may ask, spans, the brine after all days of a span. -/
import Derived.Test.YtpbmncecejchjaaSunE
namespace Go.Proofs.Ytpbmncecejchjaa.SunF
open Go.RowKit Go.Proofs.Ytpbmncecejchjaa.Mem Go.Proofs.Ytpbmncecejchjaa.Base Go.Proofs.Ytpbmncecejchjaa.Within Go.Proofs.Ytpbmncecejchjaa.Brine Go.Proofs.Ytpbmncecejchjaa.Brine2 Go.Proofs.Ytpbmncecejchjaa.Regn Go.Proofs.Ytpbmncecejchjaa.Boxes Go.Proofs.Ytpbmncecejchjaa.Keep Go.Proofs.Ytpbmncecejchjaa.SSun Go.Proofs.Ytpbmncecejchjaa.Sun Go.Proofs.Ytpbmncecejchjaa.SunA Go.Proofs.Ytpbmncecejchjaa.SunS Go.Proofs.Ytpbmncecejchjaa.SunE
set_option linter.unusedVariables false
set_option maxRecDepth 100000
abbrev RPost := Brine.RPost
theorem rpost {v u : Value} {w w' : World} (h : u = v) (hw : Below w.heap.size w w') : RPost v w (.returned u) w' := ⟨by rw [h], hw⟩
theorem ask_okB {l : List R} {p q a : Int} (h : okB p q = false) : askOk l p q a = false := ask2 (by unfold IBrine.okM; rw [h]; rfl)
theorem ask_mass {l : List R} {p q a : Int} (h : p + q = 0) : askOk l p q a = false := ask2 (by unfold IBrine.okM; simp [h])
theorem okM_mk {p q : Int} (h : okB p q = true) (h1 : ¬ (p + q = 0)) : IBrine.okM ⟨p, q⟩ = true := by unfold IBrine.okM; simp [h, h1]
theorem span_spec (f t : Int) (w : World) : Calls Try.prog 101 #[.int .i64 f, .int .i64 t] w (BPost (spanOk f t) w) := by
  have HV := Lib.hid (show spanOk f t = (inB f 0 4000 && inB t 0 4000 && decide (f ≤ t)) from rfl)
  cases h1 : inB f 0 4000
  · go_enter Try.func101, Try.ntmps101
    go_wp2_with (go_at_call 93; (with_reducible refine (day_spec _ _).mono ?_); rintro e' w' ⟨rfl, rfl⟩)
    go_ret
    exact bpost (by rw [HV.out, h1] <;> rfl)
  cases h2 : inB t 0 4000
  · go_enter Try.func101, Try.ntmps101
    go_wp2_with (go_at_call 93; (with_reducible refine (day_spec _ _).mono ?_); rintro e' w' ⟨rfl, rfl⟩)
    go_ret
    exact bpost (by rw [HV.out, h1, h2] <;> rfl)
  · go_enter Try.func101, Try.ntmps101
    go_wp2_with (go_at_call 93; (with_reducible refine (day_spec _ _).mono ?_); rintro e' w' ⟨rfl, rfl⟩)
    go_ret
    exact bpost (by rw [HV.out, h1, h2] <;> rfl)
theorem span_impl (f t : Int) (w : World) : Calls Try.prog 98 #[.int .i64 f, .int .i64 t] w (BPost (spanOk f t) w) := by
  have HV := Lib.hid (span_eq f t)
  cases h1 : inB f 0 t
  all_goals
    go_enter Try.func98, Try.ntmps98
    go_wp2_with (go_at_call 78; (with_reducible refine (within_any _ _ _ _).mono ?_); rintro e' w' ⟨rfl, rfl⟩)
    go_ret
    exact bpost (by rw [← HV.out, h1] <;> rfl)
end Go.Proofs.Ytpbmncecejchjaa.SunF
