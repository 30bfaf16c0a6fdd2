/- PondAt, BankOf, OuterBank: the model's and the program's. -/
import Derived.Test.YtncdkfkihfhcgaaIPond2
namespace Go.Proofs.Ytncdkfkihfhcgaa.Pond5
open Go.RowKit Go.Proofs.Ytncdkfkihfhcgaa.Mem Go.Proofs.Ytncdkfkihfhcgaa.Base Go.Proofs.Ytncdkfkihfhcgaa.Within Go.Proofs.Ytncdkfkihfhcgaa.SPond Go.Proofs.Ytncdkfkihfhcgaa.Regn Go.Proofs.Ytncdkfkihfhcgaa.Boxes Go.Proofs.Ytncdkfkihfhcgaa.Pond Go.Proofs.Ytncdkfkihfhcgaa.Pond2 Go.Proofs.Ytncdkfkihfhcgaa.Pond3 Go.Proofs.Ytncdkfkihfhcgaa.Pond4 Go.Proofs.Ytncdkfkihfhcgaa.IPond Go.Proofs.Ytncdkfkihfhcgaa.IPond2
set_option linter.unusedVariables false
set_option maxRecDepth 100000
def inP (x : R) (u v : Int) : Bool := inB u x.f1 (x.f1 + x.f3 - 1) && inB v x.f2 (x.f2 + x.f4 - 1)
def first (l : List R) (u v : Int) : Int := match l.find? (fun x => inP x u v) with | some x => x.f0 | none => 0
def atV (l : List R) (u v : Int) : Value := if (good l && inB u 0 49 && inB v 0 49) = true then .tuple #[.int .i64 (first l u v), .bool true] else .tuple #[.int .i64 0, .bool false]
theorem at_no {l : List R} {u v : Int} (h : (good l && inB u 0 49 && inB v 0 49) = false) : atV l u v = .tuple #[.int .i64 0, .bool false] := by unfold atV; rw [h]; rfl
theorem at_yes {l : List R} {u v f : Int} (h : (good l && inB u 0 49 && inB v 0 49) = true) (hf : first l u v = f) : atV l u v = .tuple #[.int .i64 f, .bool true] := by unfold atV; rw [if_pos h, hf]
def Off (l : List R) (u v : Int) (k : Nat) : Prop := ∀ j (h : j < l.length), j < k → inP l[j] u v = false
theorem Off.next {l : List R} {u v : Int} {k : Nat} (h : Off l u v k) (hk : k < l.length) (he : inP l[k] u v = false) : Off l u v (k + 1) := fun j hj hj2 => by
  rcases Nat.lt_or_ge j k with h1 | h1
  · exact h j hj h1
  · have : j = k := by omega
    subst this; exact he
theorem first_at {l : List R} {u v : Int} {k : Nat} (hk : k < l.length) (h : Off l u v k) (he : inP l[k] u v = true) : first l u v = l[k].f0 := by
  unfold first
  have : l.find? (fun x => inP x u v) = some l[k] := by
    rw [List.find?_eq_some_iff_getElem]
    exact ⟨he, k, hk, rfl, fun j hj => by simpa using h j (by omega) hj⟩
  rw [this]
theorem first_none {l : List R} {u v : Int} (h : Off l u v l.length) : first l u v = 0 := by
  unfold first
  have : l.find? (fun x => inP x u v) = none := by
    rw [List.find?_eq_none]
    intro x hx
    obtain ⟨j, hj, rfl⟩ := List.getElem_of_mem hx
    simpa using h j hj hj
  rw [this]
end Go.Proofs.Ytncdkfkihfhcgaa.Pond5
