/- FnRain: what the walk wants to know of covers. -/
import Derived.Test.YtpbmncecejchjaaShwC
namespace Go.Proofs.Ytpbmncecejchjaa.RainFacts
open Go.RowKit Go.Proofs.Ytpbmncecejchjaa.Mem Go.Proofs.Ytpbmncecejchjaa.Base Go.Proofs.Ytpbmncecejchjaa.Brine Go.Proofs.Ytpbmncecejchjaa.Shw Go.Proofs.Ytpbmncecejchjaa.ShwM Go.Proofs.Ytpbmncecejchjaa.ShwC
set_option linter.unusedVariables false
abbrev R := SShower.R
theorem comes_mono {k v : Int} (hk : 0 ≤ k) : comes k (v + 1) ≤ comes k v := by
  unfold comes
  have : k * (v + 1) = k * v + k := by rw [Int.mul_add, Int.mul_one]
  rw [this]
  omega
theorem okB_mk {a b : Int} (h : 0 ≤ a ∧ a ≤ 1000000) (h1 : 0 ≤ b ∧ b ≤ 1000000) : okB a b = true := by unfold okB; rw [inB_true h, inB_true h1]; rfl
theorem wet_told {l : List R} {x y c v d u1 u2 : Int} {q : Bool} (hv : aftV l x y c v d = .tuple #[.agg #[.int .i64 u1, .int .i64 u2], .bool q]) (hq : q = true) :
    ∃ k : Int, rainV l c d = .tuple #[.int .i64 k, .bool true] ∧ u2 = y ∧ 0 ≤ x ∧ x ≤ 1000000 ∧ 0 ≤ k ∧ k ≤ 20000000 ∧ x ≤ u1 ∧ u1 ≤ x + k ∧ 0 ≤ v ∧ v ≤ 100 ∧ (v = 0 → u1 = x + k) ∧ (v = 100 → u1 = x) ∧
      (v < 100 → ∃ z : Int, aftV l x y c (v + 1) d = .tuple #[.agg #[.int .i64 z, .int .i64 y], .bool true] ∧ z ≤ u1) := by
  subst hq
  unfold aftV at hv
  split at hv
  · rename_i ho
    obtain ⟨hc, hok, ⟨v0, v1⟩, hok2⟩ := aft_true ho
    injection hv with hv
    have e : aftW l x c v d = u1 ∧ y = u2 := by simpa [br] using hv
    obtain ⟨k0, k1⟩ := kilo_bd hc
    obtain ⟨x0, x1, y0, y1⟩ := okB_true hok
    have hb := (comes_nums k0 k1 v0 v1).2.2.2.2.2.2.2
    have hu : x + comes (kilo l c d) v = u1 := e.1
    refine ⟨kilo l c d, rainV_yes hc, e.2.symm, x0, x1, k0, k1, by omega, by omega, v0, v1, ?_, ?_, ?_⟩
    · rintro rfl
      have : comes (kilo l c d) 0 = kilo l c d := by unfold comes; omega
      omega
    · rintro rfl
      have : comes (kilo l c d) 100 = 0 := by unfold comes; omega
      omega
    · intro hlt
      have hm := comes_mono (v := v) k0
      have hb2 := (comes_nums k0 k1 (show 0 ≤ v + 1 by omega) (show v + 1 ≤ 100 by omega)).2.2.2.2.2.2.2
      obtain ⟨w0, w1, _, _⟩ := okB_true hok2
      unfold aftW at w1
      have ho2 : aftOk l x y c (v + 1) d = true := ao5 hc hok (inB_true ⟨by omega, by omega⟩) (okB_mk ⟨by unfold aftW; omega, by unfold aftW; omega⟩ ⟨y0, y1⟩)
      refine ⟨aftW l x c (v + 1) d, aftV_yes ho2, ?_⟩
      unfold aftW; omega
  · injection hv with hv
    simp at hv
theorem need_told {l : List R} {x y c d t n : Int} {q : Bool} (hv : needV (ndOk l x y c d t) (first x (kilo l c d) t) = .tuple #[.int .i64 n, .bool q]) (hq : q = true) :
    0 ≤ n ∧ n ≤ 100 ∧ (∃ z : Int, aftV l x y c n d = .tuple #[.agg #[.int .i64 z, .int .i64 y], .bool true] ∧ z ≤ t) ∧
      (0 < n → ∃ (z y2 : Int) (b : Bool), aftV l x y c (n - 1) d = .tuple #[.agg #[.int .i64 z, .int .i64 y2], .bool b] ∧ (b = true → t < z)) := by
  subst hq
  unfold needV at hv
  split at hv
  · rename_i j ho hf
    obtain ⟨hc, hok, ht⟩ := nd_true ho
    obtain ⟨j1, j2, j3⟩ := first_some hf
    injection hv with hv
    have e : (j : Int) = n := by simpa using hv
    subst e
    obtain ⟨k0, k1⟩ := kilo_bd hc
    obtain ⟨x0, x1, y0, y1⟩ := okB_true hok
    have hb := (comes_nums k0 k1 (show 0 ≤ (j : Int) by omega) (show (j : Int) ≤ 100 by omega)).2.2.2.2.2.2.2
    have hfit : x + comes (kilo l c d) j ≤ least t 1000000 := of_decide_eq_true j2
    have hl : least t 1000000 ≤ t ∧ least t 1000000 ≤ 1000000 ∧ (least t 1000000 = t ∨ least t 1000000 = 1000000) := by unfold least; split <;> omega
    refine ⟨by omega, by omega, ⟨aftW l x c j d, aftV_yes (ao5 hc hok (inB_true ⟨by omega, by omega⟩) (okB_mk ⟨by unfold aftW; omega, by unfold aftW; omega⟩ ⟨y0, y1⟩)), by unfold aftW; omega⟩, ?_⟩
    intro h0
    obtain ⟨z, y2, b, e⟩ := aft_form l x y c ((j : Int) - 1) d
    refine ⟨z, y2, b, e, ?_⟩
    rintro rfl
    have hno := j3 (j - 1) (by omega)
    have hno2 : ¬ (x + comes (kilo l c d) ((j - 1 : Nat) : Int) ≤ least t 1000000) := of_decide_eq_false hno
    rw [show ((j - 1 : Nat) : Int) = (j : Int) - 1 by omega] at hno2
    unfold aftV at e
    split at e
    · rename_i ho2
      obtain ⟨_, _, _, hok3⟩ := aft_true ho2
      injection e with e
      have e2 : aftW l x c ((j : Int) - 1) d = z := by
        have : aftW l x c ((j : Int) - 1) d = z ∧ y = y2 := by simpa [br] using e
        exact this.1
      obtain ⟨w0, w1, _, _⟩ := okB_true hok3
      unfold aftW at e2 w1
      omega
    · injection e with e
      simp at e
  · injection hv with hv
    simp at hv
end Go.Proofs.Ytpbmncecejchjaa.RainFacts
