/- Workers: slices.IndexFunc and ContainsFunc over workers; canWork, rakedBy, sumOf, weekOf, rakedByAll. -/
import Derived.Test.YtdikekecbapcaaaWorkI
import Derived.Test.YtdikekecbapcaaaRInt
import Derived.Shelf.Abstract
namespace Go.Proofs.Ytdikekecbapcaaa.WorkJ
open Go.RowKit Go.Proofs.Ytdikekecbapcaaa.Mem Go.Proofs.Ytdikekecbapcaaa.Base Go.Proofs.Ytdikekecbapcaaa.SWorker Go.Proofs.Ytdikekecbapcaaa.SInt Go.Proofs.Ytdikekecbapcaaa.RInt Go.Proofs.Ytdikekecbapcaaa.Regn Go.Proofs.Ytdikekecbapcaaa.Boxes Go.Proofs.Ytdikekecbapcaaa.Keep Go.Proofs.Ytdikekecbapcaaa.Work Go.Proofs.Ytdikekecbapcaaa.Work2 Go.Proofs.Ytdikekecbapcaaa.WorkS Go.Proofs.Ytdikekecbapcaaa.WorkI
set_option linter.unusedVariables false
set_option maxRecDepth 100000
/-- what a function value answers of a worker, in every world that has what this one has. -/
def Gives (g : Nat) (lb : Array Value) (p : R → Bool) (w : World) : Prop :=
  ∀ (x : R) (W : World), Below w.heap.size w W → Calls Try.prog g (#[.agg #[.int .i64 x.f0, .int .i64 x.f1, .int .i64 x.f2, .bool x.f3, .int .i64 x.f4]] ++ lb) W (RPost (.bool (p x)) W)
def Nope (p : R → Bool) (l : List R) (k : Nat) : Prop := ∀ j (h : j < l.length), j < k → p l[j] = false
theorem Nope.next {p : R → Bool} {l : List R} {k : Nat} (h : Nope p l k) (hk : k < l.length) (he : p l[k] = false) : Nope p l (k + 1) := fun j hj hj2 => by
  rcases Nat.lt_or_ge j k with h1 | h1
  · exact h j hj h1
  · have : j = k := by omega
    subst this; exact he
theorem Nope.none {p : R → Bool} {l : List R} (h : Nope p l l.length) : l.any p = false := by
  rw [List.any_eq_false]
  intro y hy
  obtain ⟨j, hj, rfl⟩ := List.getElem_of_mem hy
  rw [h j hj hj]; simp
/-- the index answered: below zero just if there is none. -/
def IxPost (p : R → Bool) (l : List R) (w : World) (e : Ending) (w' : World) : Prop := ∃ i : Int, e = .returned (.int .i64 i) ∧ decide (0 ≤ i) = l.any p ∧ -1 ≤ i ∧ i ≤ 1048576 ∧ Below w.heap.size w w'
theorem ix_mk {p : R → Bool} {l : List R} {w w' : World} {v : Value} (i : Int) (h : v = .int .i64 i) (hi : decide (0 ≤ i) = l.any p) (h1 : -1 ≤ i) (h2 : i ≤ 1048576) (hB : Below w.heap.size w w') : IxPost p l w (.returned v) w' := ⟨i, by rw [h], hi, h1, h2, hB⟩
set_option maxHeartbeats 1000000 in
theorem index_any (P : Option Addr) (cap : Nat) (l : List R) (g : Nat) (lb : Array Value) (p : R → Bool) (eg : ∀ args w, (callFunc g args).run Try.prog w = .ok (.enter g args) w) (w : World) (hg : Gives g lb p w) (hr : Rd w w.heap.size P (flat l)) (hn : l.length ≤ 1048576) :
    Calls Try.prog 97 #[.slice P l.length cap, .func (.func g) #[] lb] w (IxPost p l w) := by
  have HR := Lib.hid hr; clear hr
  have HG := Lib.hid hg; clear hg
  go_enter Try.func97, Try.ntmps97
  go_wp2
  go_loopw [8] (fun i wr => ∃ k : Nat, k ≤ l.length ∧ i = .int .i64 k ∧ Hid (Nope p l k) ∧ Below w.heap.size w wr) (fun i _ => l.length - (intOf i).toNat)
  case atStart => exact ⟨0, Nat.zero_le _, rfl, Lib.hid (fun j _ hj => by omega), Below.refl _ _⟩
  case round =>
    obtain ⟨k, hk, rfl, HN, HB⟩ := hrel
    by_cases hlt : k < l.length
    · obtain ⟨b, o, rfl, hb, hc⟩ := HR.out.at (k := k * 5) (by rw [flat_n]; omega)
      obtain ⟨x, hx⟩ : ∃ x, l[k] = x := ⟨_, rfl⟩
      obtain ⟨h0, h1, h2, h3, h4⟩ := cells5 HB hb hc hlt hx
      have hcall := HG.out x wr HB
      have HX := Lib.hid hx; clear hx hc
      have HL := Lib.hid hlt
      have HB' := Lib.hid HB; clear HB
      cases hq : p x with
      | true =>
        rw [hq] at hcall
        have HA := Lib.hid (show l.any p = true from List.any_eq_true.2 ⟨l[k]'hlt, List.getElem_mem hlt, by rw [HX.out]; exact hq⟩)
        go_wp2_with (go_at_fn g; refine hcall.mono ?_; rintro e w' ⟨rfl, hv⟩)
        go_ret
        exact ix_mk (k : Int) rfl (by rw [HA.out]; exact decide_eq_true (by omega)) (by omega) (by have := HL.out; omega) (be HB'.out hv)
      | false =>
        rw [hq] at hcall
        have HN1 := Lib.hid (HN.out.next HL.out (by rw [HX.out]; exact hq))
        go_wp2_with (go_at_fn g; refine hcall.mono ?_; rintro e w' ⟨rfl, hv⟩)
        go_roundw
        case rel => exact ⟨k + 1, HL.out, by go_num, HN1, be HB'.out hv⟩
        case measure => have := HL.out; simp [intOf]; omega
    · have HF := Lib.hid (show l.any p = false from Nope.none (fun j hj _ => HN.out j hj (by omega)))
      go_wp2
      go_ret
      exact ix_mk (-1) rfl (by rw [HF.out]; rfl) (by omega) (by omega) HB
end Go.Proofs.Ytdikekecbapcaaa.WorkJ
