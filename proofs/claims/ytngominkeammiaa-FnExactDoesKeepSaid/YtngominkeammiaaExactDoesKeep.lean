/- At every argument the function answers as its model in verifier/spec, every field; it writes into no argument; its answer owns its memory. -/
import Derived.Test.YtngominkeammiaaLaws13a
import Derived.Test.YtngominkeammiaaOpen
import Derived.Test.YtngominkeammiaaSRung
import Derived.Test.YtngominkeammiaaOpenD
import Derived.Test.YtngominkeammiaaSBasin
import Derived.WalkKit
import Derived.ProofKit
import Derived.OpenShut
import Derived.ShutString
import Derived.SliceStrings
import Derived.ChangeOld
import Derived.Below
namespace Go.Proofs.Ytngominkeammiaa.fnExactDoesKeep
open Go.ChangeShapes Go.WideShapes Go.ChangeAt Go.RowKit
open Go.ChangeMaps (open_string shut_string)
set_option linter.unusedVariables false

theorem own : ownKnob Try.prog.godebug = none := by kernel_rfl
theorem laidOut : laidOutB Try.prog = true := by kernel_rfl

set_option maxRecDepth 100000 in
theorem lifted (os : Os) (started : os.Started) (H : Type) (enc : TypeId × Value → H) :
    ReturnsInHanded {} Try.checked os 6 .any (Rows.fnExactDoesKeepSpec.pre6 enc Try.prog Try.f6 Rows.fnExactDoesKeepRow.domain false) (Rows.fnExactDoesKeepSpec.post enc Try.prog Try.f6 false true false false) := by
  refine returnsInHanded_of_change (C := Try.checked) own started (by kernel_rfl) Try.func6
    (ChangeSpec.witness6 (enc := enc) (C := Try.checked) false ⟨#[], #[.slice none 0 0, .slice none 0 0], []⟩ 8 (by kernel_rfl) (by kernel_rfl) (by kernel_rfl) (by kernel_rfl)) ?_
  intro W base args ds gs before hval0 hW hcnd _
  have hval : ∀ (j : Nat) t v, Try.f6.params[j]? = some t → args[j]? = some v → Value.okWide Try.prog W .any base t v := hval0
  have hW' := hW
  obtain ⟨p, q, hA0, hV, rfl, hfz, hnd⟩ := hW
  have hA : DataW.TrodAll enc Try.prog W 0 (fun _ => true) true Try.f6.params.toList args.toList ds p := hA0
  rw [Try.params6] at hA hval
  obtain ⟨v0, vs0, d0, ds0, p0, q0, hargs, rfl, rfl, h0, r0⟩ := trodAll_cons hA
  obtain ⟨v1, vs1, d1, ds1, p1, q1, rfl, rfl, rfl, h1, r1⟩ := trodAll_cons r0
  obtain ⟨rfl, rfl, rfl⟩ := trodAll_nil r1
  obtain rfl : args = #[v0, v1] := by cases args; simp_all
  obtain ⟨rfl, rfl⟩ := trodVars_none hV
  obtain ⟨A0, len0, cap0, rfl⟩ := okWide_slice Try.underlying57 (hval 0 57 v0 rfl rfl)
  have k0 := h0
  have lt0 : ∀ x ∈ p0, x.block < W.heap.size := by obtain ⟨m, hm⟩ := k0; exact DataW.trod_lt m _ _ _ hm
  obtain ⟨l0, hl0, r0x, n0, z0, c0⟩ : ∃ l : List SRung.R, len0 = l.length ∧ Mem.Rd W W.heap.size A0 (SRung.flat l) ∧ l.length ≤ maxLen ∧ (∀ x ∈ l, x.wf) ∧ l.length ≤ cap0 := by
    obtain ⟨fuel, hf⟩ := h0
    rcases Open.open_structs Try.underlying57 Try.underlying103 (by kernel_rfl) (by kernel_rfl) (by intro j f hf; rcases j with _ | _ | j <;> simp at hf <;> subst hf <;> exact Try.underlying3) hf with hcs | ⟨x, l, c, hcs, hl, hm, hcell⟩
    · simp [Value.cells] at hcs
      obtain ⟨rfl, rfl, rfl⟩ := hcs
      exact ⟨[], rfl, .inl rfl, Nat.zero_le _, (fun s hs => by cases hs), Nat.le_refl _⟩
    · simp [Value.cells] at hcs
      obtain ⟨rfl, rfl, rfl⟩ := hcs
      obtain ⟨ll, h1, h2, h3⟩ := SRung.of_cells (w := W) (a := x) (len := len0) (fun i hi j hj => hcell i hi j hj)
      exact ⟨ll, h1.symm, h2, by omega, h3, by omega⟩
  subst hl0
  obtain ⟨A1, len1, cap1, rfl⟩ := okWide_slice Try.underlying61 (hval 1 61 v1 rfl rfl)
  have k1 := h1
  have lt1 : ∀ x ∈ p1, x.block < W.heap.size := by obtain ⟨m, hm⟩ := k1; exact DataW.trod_lt m _ _ _ hm
  obtain ⟨l1, hl1, r1x, n1, z1, c1⟩ : ∃ l : List SBasin.R, len1 = l.length ∧ Mem.Rd W W.heap.size A1 (SBasin.flat l) ∧ l.length ≤ maxLen ∧ (∀ x ∈ l, x.wf) ∧ l.length ≤ cap1 := by
    obtain ⟨fuel, hf⟩ := h1
    rcases OpenD.open_structs Try.underlying61 Try.underlying107 (show Try.prog.cellsOf 107 = 3 by kernel_rfl) (fun c hc => match c, hc with | 0, _ => ⟨0, _, 1, rfl, by decide, by decide, by kernel_rfl, .inl ⟨Try.underlying3, rfl⟩⟩ | 1, _ => ⟨1, _, 2, rfl, by decide, by decide, by kernel_rfl, .inr ⟨_, Try.underlying69, by kernel_rfl, rfl, (by intro j f hf; rcases j with _ | _ | j <;> simp at hf <;> subst hf <;> exact Try.underlying3)⟩⟩ | 2, _ => ⟨1, _, 2, rfl, by decide, by decide, by kernel_rfl, .inr ⟨_, Try.underlying69, by kernel_rfl, rfl, (by intro j f hf; rcases j with _ | _ | j <;> simp at hf <;> subst hf <;> exact Try.underlying3)⟩⟩ | c + 3, hc => absurd hc (by omega)) hf with hcs | ⟨x, l, c, hcs, hl, hm, hcell⟩
    · simp [Value.cells] at hcs
      obtain ⟨rfl, rfl, rfl⟩ := hcs
      exact ⟨[], rfl, .inl rfl, Nat.zero_le _, (fun s hs => by cases hs), Nat.le_refl _⟩
    · simp [Value.cells] at hcs
      obtain ⟨rfl, rfl, rfl⟩ := hcs
      obtain ⟨ll, h1, h2, h3⟩ := SBasin.of_cells (w := W) (a := x) (len := len1) (fun i hi j hj => hcell i hi j hj)
      exact ⟨ll, h1.symm, h2, by omega, h3, by omega⟩
  subst hl1
  clear hA0 hval0
  refine (Laws13a.keep_law A0 cap0 l0 A1 cap1 l1 W r0x r1x n0 n1).mono fun e W' ⟨he, bel⟩ => ?_
  subst he
  exact ⟨_, rfl, _, _, _, [], _, [], hW', trodAll_mk1 (shut_bool Try.underlying4 _), (trodAll_cons_mk (Below.trod laidOut (by kernel_rfl) (of_decide_eq_true (by kernel_rfl)) k0 bel lt0) (trodAll_cons_mk (Below.trod laidOut (by kernel_rfl) (of_decide_eq_true (by kernel_rfl)) k1 bel lt1) trodAll_mk0)), rfl, bel.frame _, fun h => by cases h⟩

theorem over : Rows.fnExactDoesKeepRow.holds Try.pinned (OpenSpec.ofChange Rows.fnExactDoesKeepSpec) :=
  OpenClaim.holds_of_wide 6 Try.f6 rfl rfl rfl rfl rfl rfl rfl ⟨rfl, rfl, rfl, rfl, rfl⟩ rfl rfl rfl rfl rfl (by kernel_rfl) Try.func6 (by kernel_rfl)
    (of_decide_eq_true (by kernel_rfl)) (by unfold Func.isWrapper; first | (rw [if_pos (by decide +kernel)]; kernel_rfl) | (rw [if_neg (by decide +kernel)]; exact ⟨rfl, rfl⟩))
    (fun os started H enc _ => lifted os started H enc)

theorem proved : Rows.FnExactDoesKeepSaid := over
end Go.Proofs.Ytngominkeammiaa.fnExactDoesKeep
