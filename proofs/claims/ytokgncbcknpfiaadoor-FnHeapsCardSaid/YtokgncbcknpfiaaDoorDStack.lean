/- The draw DrawStackLayers. Made by tools/mk_dstack.py. -/
import Derived.Test.YtokgncbcknpfiaaDoorDr
import Derived.Test.YtokgncbcknpfiaaDoorSInt
namespace Go.Proofs.YtokgncbcknpfiaaDoor.DStack
open Go.RowKit Go.Proofs.YtokgncbcknpfiaaDoor.Mem Go.Proofs.YtokgncbcknpfiaaDoor.Base Go.Proofs.YtokgncbcknpfiaaDoor.Draw Go.Proofs.YtokgncbcknpfiaaDoor.Boxes Go.Proofs.YtokgncbcknpfiaaDoor.Keep Go.Proofs.YtokgncbcknpfiaaDoor.Dr Go.Proofs.YtokgncbcknpfiaaDoor.SInt
set_option linter.unusedVariables false
set_option maxRecDepth 100000
theorem info_int : (Tryd.prog.info? 3).map (fun i => (i.zero, i.size, i.bytes)) = some (some (.int .i64 0), 1, 8) := by kernel_rfl
theorem own_some0 {w : World} {base : Nat} {e : TypeId} {size n : Nat} {v : Value} {xs : List Value} (h : w.ownsRow base e size v n xs) (hv : v ≠ .slice none 0 0) : ∃ g c, v = .slice (some ⟨g, 0, none⟩) n c := by
  rcases h.2 with ⟨h1, _⟩ | ⟨g, cap, cur, h1, _⟩
  · exact absurd h1 hv
  · exact ⟨g, cap, h1⟩
theorem cell_add1 (w : World) (b o j : Nat) : w.cell? (Addr.add ⟨b, o, none⟩ j) = w.cell? ⟨b, o + j, none⟩ := by
  unfold Addr.add; split
  · rename_i h; subst h; rfl
  · rfl
theorem new1 (W : World) (a : Int) : ∀ j u, [Value.int .i64 a][j]? = some u → (W.alloc (.cells #[.int .i64 a] 3)).cell? ((⟨W.heap.size, 0, none⟩ : Addr).add j) = some u := by
  intro j u hu
  rw [cell_add1, Nat.zero_add, World.cell?_alloc_at _ _ _ _ rfl]
  simpa using hu
theorem one1 (a : Int) : ∀ u ∈ [Value.int .i64 a], u.oneCell' = true := by
  intro u hu; simp at hu; rcases hu with rfl; rfl
theorem iv_app (a b : List Int) : iv (a ++ b) = iv a ++ iv b := by simp [iv]
theorem mem_app {l : List Int} {a : Int} (h : ∀ x ∈ l, 0 ≤ x ∧ x ≤ 501) (ha : 0 ≤ a ∧ a ≤ 501) : ∀ x ∈ l ++ [a], 0 ≤ x ∧ x ≤ 501 := by
  intro x hx
  rcases List.mem_append.1 hx with h1 | h1
  · exact h x h1
  · simp at h1; subst h1; exact ha
theorem empty1 (w : World) {base : Nat} (hb : base ≤ w.heap.size) : (w.alloc (.cells #[] 3)).ownsRow base 3 1 (.slice (some ⟨w.heap.size, 0, none⟩) 0 0) 0 (iv []) := by
  have := World.ownsRow_lit w #[] 0 (e := 3) (size := 1) (base := base) hb (by unfold maxLen; omega) rfl
  simpa [iv] using this
def slen : Value → Nat
  | .slice _ n _ => n
  | _ => 0
theorem cu_at {w : World} {A : Option Addr} {zs : List Int} (h : Src w A zs) (cap : Nat) {p : Nat} (hp : p = w.heap.size) : Cu w.heap.size zs p 0 (w.alloc (.cells #[.slice A zs.length cap, .int .i64 0, .int .u64 0] 49)) := ⟨0, Nat.le_refl _, hp ▸ cur_new h cap⟩
theorem below_of {w W : World} {p : Nat} (h : w.grownBy W (some p)) (hp : w.heap.size ≤ p) : Below w.heap.size w W := (Below.refl _ w).grown h (Nat.le_refl _) (fun k hk => by injection hk with hk; omega)
def DI (w : World) (e : Ending) (w' : World) : Prop := ∃ (L : List Int) (g c : Nat), L.length ≤ 22 ∧ (∀ x ∈ L, 0 ≤ x ∧ x ≤ 501) ∧ e = .returned (.slice (some ⟨g, 0, none⟩) L.length c) ∧ w'.ownsRow w.heap.size 3 1 (.slice (some ⟨g, 0, none⟩) L.length c) L.length (iv L) ∧ Below w.heap.size w w'
end Go.Proofs.YtokgncbcknpfiaaDoor.DStack
