/- The model's numbers of steps to a pond. -/
import Derived.Test.YtncdkfkihfhcgaaBfs
import Derived.Test.YtncdkfkihfhcgaaPond4
import Derived.Test.YtncdkfkihfhcgaaIPond2
import Derived.Test.YtncdkfkihfhcgaaSInt
import Derived.Test.YtncdkfkihfhcgaaKeep
namespace Go.Proofs.Ytncdkfkihfhcgaa.Steps
open Go.RowKit Go.Proofs.Ytncdkfkihfhcgaa.Mem Go.Proofs.Ytncdkfkihfhcgaa.Base Go.Proofs.Ytncdkfkihfhcgaa.Within Go.Proofs.Ytncdkfkihfhcgaa.SPond Go.Proofs.Ytncdkfkihfhcgaa.Regn Go.Proofs.Ytncdkfkihfhcgaa.Boxes Go.Proofs.Ytncdkfkihfhcgaa.Pond Go.Proofs.Ytncdkfkihfhcgaa.Pond2 Go.Proofs.Ytncdkfkihfhcgaa.Pond3 Go.Proofs.Ytncdkfkihfhcgaa.Pond4 Go.Proofs.Ytncdkfkihfhcgaa.IPond2 Go.Proofs.Ytncdkfkihfhcgaa.SInt Go.Proofs.Ytncdkfkihfhcgaa.Bfs
set_option linter.unusedVariables false
set_option maxRecDepth 100000
/-- the number at place j (-1 beyond). -/
def sAt (S : List Int) (j : Nat) : Int := S.getD j (-1)
theorem sAt_get {S : List Int} {j : Nat} (h : j < S.length) : S[j] = sAt S j := by unfold sAt; simp [List.getD, h]
theorem sAt_self {S : List Int} {k : Nat} (h : k < S.length) (v : Int) : sAt (S.set k v) k = v := by unfold sAt; simp [List.getD, h]
theorem sAt_ne {S : List Int} {k j : Nat} (h : k ≠ j) (v : Int) : sAt (S.set k v) j = sAt S j := by unfold sAt; simp [List.getD, List.getElem?_set_ne h]
structure K (adj : Nat → Nat → Bool) (N to m i : Nat) (h : Int) (S : List Int) : Prop where
  len : S.length = N
  bd : ∀ j, j < N → -1 ≤ sAt S j ∧ sAt S j ≤ h
  z : sAt S to = 0
  z' : ∀ j, j < N → sAt S j = 0 → j = to
  c : ∀ x, x < N → ∀ q : Nat, sAt S x = q + 1 → ∃ y, y < N ∧ adj x y = true ∧ sAt S y = q
  b : ∀ x, x < N → 0 ≤ sAt S x → (sAt S x < m ∨ (sAt S x = m ∧ x < i)) → ∀ y, y < N → adj x y = true → 0 ≤ sAt S y ∧ sAt S y ≤ sAt S x + 1
variable {adj : Nat → Nat → Bool} {N to m i : Nat} {h : Int} {S : List Int}
theorem K.init (hto : to < N) : K adj N to 0 0 0 ((List.replicate N (-1 : Int)).set to 0) := by
  have e0 : sAt ((List.replicate N (-1 : Int)).set to 0) to = 0 := sAt_self (by simpa using hto) 0
  have e1 : ∀ j, j ≠ to → sAt ((List.replicate N (-1 : Int)).set to 0) j = -1 := fun j hj => by
    rw [sAt_ne (fun e => hj e.symm)]
    unfold sAt
    by_cases hj : j < N
    · simp [List.getD, hj]
    · simp [List.getD, List.getElem?_eq_none (show (List.replicate N (-1 : Int)).length ≤ j by simp; omega)]
  refine ⟨by simp, fun j _ => ?_, e0, fun j _ hz => ?_, fun x _ q hq => ?_, fun x _ h0 hx y _ _ => ?_⟩
  · by_cases e : j = to
    · rw [e, e0]; omega
    · rw [e1 j e]; omega
  · by_cases e : j = to
    · exact e
    · rw [e1 j e] at hz; omega
  · by_cases e : x = to
    · rw [e, e0] at hq; omega
    · rw [e1 x e] at hq; omega
  · rcases hx with hx | hx <;> omega
theorem K.wide (k : K adj N to m i h S) {h' : Int} (hh : h ≤ h') : K adj N to m i h' S :=
  ⟨k.len, fun j hj => ⟨(k.bd j hj).1, Int.le_trans (k.bd j hj).2 hh⟩, k.z, k.z', k.c, k.b⟩
theorem K.nextI (k : K adj N to m i ((m : Int) + 1) S) (hi : sAt S i = m → ∀ y, y < N → adj i y = true → 0 ≤ sAt S y) : K adj N to m (i + 1) ((m : Int) + 1) S :=
  ⟨k.len, k.bd, k.z, k.z', k.c, fun x hx h0 hm y hy ha => by
    by_cases e : sAt S x < m ∨ (sAt S x = m ∧ x < i)
    · exact k.b x hx h0 e y hy ha
    · have e2 : sAt S x = m ∧ x = i := by omega
      obtain ⟨e2, rfl⟩ := e2
      have := k.bd y hy
      exact ⟨hi e2 y hy ha, by omega⟩⟩
theorem K.nextM (k : K adj N to m N ((m : Int) + 1) S) : K adj N to (m + 1) 0 ((m + 1 : Nat) : Int) S :=
  ⟨k.len, fun j hj => by have := k.bd j hj; omega, k.z, k.z', k.c, fun x hx h0 hm y hy ha => k.b x hx h0 (by omega) y hy ha⟩
theorem K.set (k : K adj N to m i ((m : Int) + 1) S) {j : Nat} (hj : j < N) (hs : sAt S j < 0) (hi : i < N) (hsi : sAt S i = m) (ha : adj j i = true) : K adj N to m i ((m : Int) + 1) (S.set j ((m : Int) + 1)) := by
  have e0 : sAt (S.set j ((m : Int) + 1)) j = (m : Int) + 1 := sAt_self (by rw [k.len]; exact hj) _
  have e1 : ∀ x, x ≠ j → sAt (S.set j ((m : Int) + 1)) x = sAt S x := fun x hx => sAt_ne (fun e => hx e.symm) _
  have hkeep : ∀ x, 0 ≤ sAt S x → sAt (S.set j ((m : Int) + 1)) x = sAt S x := fun x hx => e1 x (fun e => by rw [e] at hx; omega)
  refine ⟨by simp [k.len], fun x hx => ?_, by rw [hkeep to (by rw [k.z]; omega), k.z], fun x hx hz => ?_, fun x hx q hq => ?_, fun x hx h0 hm y hy hxy => ?_⟩
  · by_cases e : x = j
    · rw [e, e0]; omega
    · rw [e1 x e]; exact k.bd x hx
  · by_cases e : x = j
    · rw [e, e0] at hz; omega
    · rw [e1 x e] at hz; exact k.z' x hx hz
  · by_cases e : x = j
    · rw [e, e0] at hq
      subst e
      exact ⟨i, hi, ha, by rw [hkeep i (by omega)]; omega⟩
    · rw [e1 x e] at hq
      obtain ⟨y, hy, hxy, hyq⟩ := k.c x hx q hq
      exact ⟨y, hy, hxy, by rw [hkeep y (by omega)]; exact hyq⟩
  · by_cases e : x = j
    · rw [e, e0] at hm; omega
    · rw [e1 x e] at h0 hm ⊢
      have := k.b x hx h0 hm y hy hxy
      rw [hkeep y this.1]; exact this
theorem K.steps (k : K adj N to N 0 N S) (hsym : ∀ x y, adj x y = adj y x) : Bfs.Steps N adj to (sAt S) :=
  ⟨k.z, k.z', fun x y hx hy ha h0 hy2 => k.b y hy h0 (.inl hy2) x hx (by rw [hsym]; exact ha), k.c⟩
/-! ### over the ponds -/
theorem least_comm (a b : Int) : least a b = least b a := by unfold least; split <;> split <;> omega
theorem most_comm (a b : Int) : most a b = most b a := by unfold most; split <;> split <;> omega
theorem common_comm (a n b m : Int) : common a n b m = common b m a n := by unfold common; rw [least_comm (a + n), most_comm a b]
theorem bank_comm (x y : R) : bank x y = bank y x := by
  unfold bank
  rw [common_comm x.f2, common_comm x.f1]
  have e1 : (x.f1 + x.f3 = y.f1 ∨ y.f1 + y.f3 = x.f1) = (y.f1 + y.f3 = x.f1 ∨ x.f1 + x.f3 = y.f1) := propext or_comm
  have e2 : (x.f2 + x.f4 = y.f2 ∨ y.f2 + y.f4 = x.f2) = (y.f2 + y.f4 = x.f2 ∨ x.f2 + x.f4 = y.f2) := propext or_comm
  simp only [e1, e2]
def ad (l : List R) (i j : Nat) : Bool := decide (0 < bank (l.getD i zero) (l.getD j zero))
theorem ad_comm (l : List R) (i j : Nat) : ad l i j = ad l j i := by unfold ad; rw [bank_comm]
theorem ad_at {l : List R} {i j : Nat} {x y : R} (hi : i < l.length) (hj : j < l.length) (hx : l[i] = x) (hy : l[j] = y) : ad l i j = decide (0 < bank x y) := by
  unfold ad; rw [getD_at hi, getD_at hj, hx, hy]
end Go.Proofs.Ytncdkfkihfhcgaa.Steps
