/- What FnStacks and FnHeaps compare rows by: rBig, rInts, rSum. -/
import Derived.Test.YtknlgdahcfgbeaaDraw
import Derived.Test.YtknlgdahcfgbeaaSInt
namespace Go.Proofs.Ytknlgdahcfgbeaa.Draw
def bigB (n : Nat) : Bool := decide (65536 < n)
end Go.Proofs.Ytknlgdahcfgbeaa.Draw
namespace Go.Proofs.Ytknlgdahcfgbeaa.RLaw
open Go.RowKit Go.Proofs.Ytknlgdahcfgbeaa.Mem Go.Proofs.Ytknlgdahcfgbeaa.Base Go.Proofs.Ytknlgdahcfgbeaa.SInt
set_option linter.unusedVariables false
set_option maxRecDepth 100000
theorem rbig_any (A : Option Addr) (cap n : Nat) (w : World) (hn : n ≤ maxLen) : Calls Try.prog 4 #[.slice A n cap] w (BPost (Draw.bigB n) w) := by
  unfold maxLen at hn
  by_cases h : 65536 < n
  · have hb := Lib.hid (show Draw.bigB n = true from decide_eq_true h)
    have h' : decide ((65536 : Int) < n) = true := decide_eq_true (by omega)
    go_enter Try.func4, Try.ntmps4
    go_wp2
    go_ret
    exact bpost (by rw [hb.out])
  · have hb := Lib.hid (show Draw.bigB n = false from decide_eq_false h)
    have h' : decide ((65536 : Int) < n) = false := decide_eq_false (by omega)
    go_enter Try.func4, Try.ntmps4
    go_wp2
    go_ret
    exact bpost (by rw [hb.out])
set_option maxHeartbeats 800000 in
theorem rints_same (A A' : Option Addr) (c c' : Nat) (l : List Int) (w : World) (hr : Rd w w.heap.size A (iv l)) (hr' : Rd w w.heap.size A' (iv l)) (hn : l.length ≤ 1048576) :
    Calls Try.prog 22 #[.slice A l.length c, .slice A' l.length c'] w fun e w' => e = .returned (.bool true) ∧ Drawn w w' := by
  have HR := Lib.hid hr; clear hr
  have HR' := Lib.hid hr'; clear hr'
  go_enter Try.func22, Try.ntmps22
  go_wp2
  go_loopw [5] (fun i wr => ∃ k : Nat, k ≤ l.length ∧ i = .int .i64 k ∧ Drawn w wr) (fun i _ => l.length - (intOf i).toNat)
  case atStart => exact ⟨0, Nat.zero_le _, rfl, Drawn.refl _⟩
  case round =>
    obtain ⟨k, hk, rfl, hw⟩ := hrel
    have HW := Lib.hid hw; clear hw
    by_cases hlt : k < l.length
    · obtain ⟨b, o, rfl, hb, hc⟩ := HR.out.at (k := k) (by rw [iv_len]; exact hlt)
      obtain ⟨b', o', rfl, hb', hc'⟩ := HR'.out.at (k := k) (by rw [iv_len]; exact hlt)
      have h0 : wr.cell? ⟨b, o + k, none⟩ = some (.int .i64 l[k]) := (HW.out.cell _ _).trans (hc _ _ (iv_get l k hlt))
      have h1 : wr.cell? ⟨b', o' + k, none⟩ = some (.int .i64 l[k]) := (HW.out.cell _ _).trans (hc' _ _ (iv_get l k hlt))
      have e3 : IntKind.i64.wrap ((k : Int) + 1) = k + 1 := IntWalk.i64_in _ (by omega)
      clear hc hc'
      generalize l[k] = p0 at h0 h1
      go_wp2_with fail
      go_quiet (fail)
      generalize nq = q1
      go_wp2
      exact ⟨⟨k + 1, hlt, by go_num, HW.out.more _⟩, by simp [intOf]; omega⟩
    · go_wp2
      go_ret
      exact ⟨rfl, HW.out⟩
def sumI (l : List Int) : Int := l.sum
theorem sum_next {l : List Int} {k : Nat} (h : k < l.length) : (l.take (k + 1)).sum = (l.take k).sum + l[k] := by
  rw [List.take_succ_eq_append_getElem h, List.sum_append]; simp
theorem sum_bd {l : List Int} {m : Int} (h : ∀ x ∈ l, -m ≤ x ∧ x ≤ m) : ∀ k, k ≤ l.length → -(m * k) ≤ (l.take k).sum ∧ (l.take k).sum ≤ m * k
  | 0, _ => by simp
  | k + 1, hk => by
    have ih := sum_bd h k (by omega)
    have hl : k < l.length := by omega
    have := h l[k] (List.getElem_mem hl)
    rw [sum_next hl]
    have e : m * ((k + 1 : Nat) : Int) = m * k + m := by rw [Int.natCast_add, Int.mul_add]; simp
    omega
end Go.Proofs.Ytknlgdahcfgbeaa.RLaw
