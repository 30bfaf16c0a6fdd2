/- The ways that wait: their rows in memory. -/
import Derived.Test.YtncdkfkihfhcgaaChainP
import Derived.Test.YtncdkfkihfhcgaaQueue
import Derived.Test.YtncdkfkihfhcgaaSetMap
import Derived.Test.YtncdkfkihfhcgaaIClone
namespace Go.Proofs.Ytncdkfkihfhcgaa.ChainQ
open Go.RowKit Go.Proofs.Ytncdkfkihfhcgaa.Mem Go.Proofs.Ytncdkfkihfhcgaa.SPond Go.Proofs.Ytncdkfkihfhcgaa.SInt Go.Proofs.Ytncdkfkihfhcgaa.Keep Go.Proofs.Ytncdkfkihfhcgaa.Chain Go.Proofs.Ytncdkfkihfhcgaa.Bfs
set_option linter.unusedVariables false
/-- v is the way r: a row of the call's own, neither the queue's block b nor the map's. -/
def WayAt (l : List R) (B : Nat) (w : World) (b gM : Nat) (v : Value) (r : Bfs.Way) : Prop :=
  ∃ g c, v = .slice (some ⟨g, 0, none⟩) (r.1.length + 1) c ∧ w.ownsRow B 3 1 (.slice (some ⟨g, 0, none⟩) (r.1.length + 1) c) (r.1.length + 1) (iv ((r.1 ++ [r.2]).map (idOf l))) ∧ g ≠ b ∧ g ≠ gM
theorem WayAt.keep {l : List R} {B b gM : Nat} {w w' : World} {v : Value} {r : Bfs.Way} (h : WayAt l B w b gM v r) (hb : Below w.heap.size w w') : WayAt l B w' b gM v r := by
  obtain ⟨g, c, h1, h2, h3⟩ := h
  exact ⟨g, c, h1, own_keep h2 hb, h3⟩
theorem WayAt.grown {l : List R} {B b gM k : Nat} {w w' : World} {v : Value} {r : Bfs.Way} (h : WayAt l B w b gM v r) (hg : w.grownBy w' (some k)) (hk : k = b ∨ k = gM) : WayAt l B w' b gM v r := by
  obtain ⟨g, c, h1, h2, h3, h4⟩ := h
  exact ⟨g, c, h1, own_grownN h2 hg (fun j hj => by injection hj with hj; omega), h3, h4⟩
structure Qs (l : List R) (B : Nat) (w : World) (b gM : Nat) (Q : List Bfs.Way) (vs : List Value) : Prop where
  len : vs.length = Q.length
  each : ∀ (j : Nat) (r : Bfs.Way), Q[j]? = some r → ∃ v, vs[j]? = some v ∧ WayAt l B w b gM v r
variable {l : List R} {B b gM : Nat} {w w' : World} {Q : List Bfs.Way} {vs : List Value}
theorem Qs.keep (h : Qs l B w b gM Q vs) (hb : Below w.heap.size w w') : Qs l B w' b gM Q vs :=
  ⟨h.len, fun j r hr => by obtain ⟨v, h1, h2⟩ := h.each j r hr; exact ⟨v, h1, h2.keep hb⟩⟩
theorem Qs.grown {k : Nat} (h : Qs l B w b gM Q vs) (hg : w.grownBy w' (some k)) (hk : k = b ∨ k = gM) : Qs l B w' b gM Q vs :=
  ⟨h.len, fun j r hr => by obtain ⟨v, h1, h2⟩ := h.each j r hr; exact ⟨v, h1, h2.grown hg hk⟩⟩
/-- the queue has moved into block b'. -/
theorem Qs.moved {b' : Nat} {u : World} (h : Qs l B w b gM Q vs) (hg : w.grownBy w' (some b)) (hb : b' = b ∨ w.heap.size ≤ b') : Qs l B w' b' gM Q vs :=
  ⟨h.len, fun j r hr => by
    obtain ⟨v, h1, g, c, h2, h3, h4, h5⟩ := h.each j r hr
    have hlt := own_lt h3
    exact ⟨v, h1, g, c, h2, own_grownN h3 hg (fun k hk => by injection hk with hk; omega), by omega, h5⟩⟩
theorem Qs.head {r : Bfs.Way} (h : Qs l B w b gM (r :: Q) vs) : ∃ v vs', vs = v :: vs' ∧ WayAt l B w b gM v r ∧ Qs l B w b gM Q vs' := by
  have hl := h.len
  cases vs with
  | nil => simp at hl
  | cons v vs' =>
    obtain ⟨v0, h1, h2⟩ := h.each 0 r rfl
    injection h1 with h1; subst h1
    refine ⟨v, vs', rfl, h2, by simpa using hl, fun j r' hr => ?_⟩
    obtain ⟨v1, h3, h4⟩ := h.each (j + 1) r' (by simpa using hr)
    exact ⟨v1, by simpa using h3, h4⟩
theorem Qs.snoc {r : Bfs.Way} {v : Value} (h : Qs l B w b gM Q vs) (hw : WayAt l B w b gM v r) : Qs l B w b gM (Q ++ [r]) (vs ++ [v]) := by
  refine ⟨by simp [h.len], fun j r' hr => ?_⟩
  by_cases hj : j < Q.length
  · rw [List.getElem?_append_left hj] at hr
    obtain ⟨v1, h1, h2⟩ := h.each j r' hr
    exact ⟨v1, by rw [List.getElem?_append_left (by rw [h.len]; exact hj)]; exact h1, h2⟩
  · rw [List.getElem?_append_right (by omega)] at hr
    have h0 : j - Q.length = 0 := by
      rcases Nat.lt_or_ge (j - Q.length) [r].length with h1 | h1
      · simpa using h1
      · rw [List.getElem?_eq_none h1] at hr; cases hr
    rw [h0] at hr
    injection hr with hr; subst hr
    exact ⟨v, by rw [List.getElem?_append_right (by rw [h.len]; omega), h.len, h0]; rfl, hw⟩
theorem Qs.one {r : Bfs.Way} {v : Value} (hw : WayAt l B w b gM v r) : Qs l B w b gM [r] [v] := by
  have := Qs.snoc (Q := []) (vs := []) ⟨rfl, fun j r' hr => by simp at hr⟩ hw
  simpa using this
/-- what is known of the search: there is a way and it is found, or there is none. -/
def State (l : List R) (S : List Int) (i : Nat) (Q : List Bfs.Way) (D : List Nat) : Prop :=
  Seen l.length Q D ∧ ((∃ d : Nat, Steps.sAt S i = d ∧ Inv l.length (Steps.ad l) (Steps.sAt S) d (grd l.length (Steps.ad l) (Steps.sAt S) i d) Q D) ∨ (Steps.sAt S i < 0 ∧ ∀ r ∈ Q, ok1 (Steps.sAt S) l.length r))
variable {S : List Int} {i k : Nat} {D : List Nat}
theorem State.start (hi : i < l.length) : State l S i [([], i)] [i] := by
  refine ⟨Seen.start hi, ?_⟩
  rcases Int.lt_or_le (Steps.sAt S i) 0 with h | h
  · exact .inr ⟨h, none_start h⟩
  · obtain ⟨d, hd⟩ : ∃ d : Nat, Steps.sAt S i = d := ⟨(Steps.sAt S i).toNat, by omega⟩
    exact .inl ⟨d, hd, Bfs.start hi hd⟩
theorem State.step (hK : Steps.K (Steps.ad l) l.length k l.length 0 l.length S) (hi : i < l.length) {q : List Nat} {v : Nat} (h : State l S i ((q, v) :: Q) D) (hv : v ≠ k) :
    State l S i (Q ++ (kids l.length (Steps.ad l) D v).map fun u => (q ++ [v], u)) (D ++ kids l.length (Steps.ad l) D v) := by
  have H := hK.steps (Steps.ad_comm l)
  refine ⟨h.1.step, ?_⟩
  rcases h.2 with ⟨d, hd, hI⟩ | ⟨hn, ho⟩
  · exact .inl ⟨d, hd, Bfs.step H (by have := (hK.bd i hi).2; omega) hI hv⟩
  · exact .inr ⟨hn, none_step H (h.1.way _ (List.mem_cons_self ..)).1 ho⟩
/-- the way that ends there is the one that is asked for. -/
theorem State.done (hK : Steps.K (Steps.ad l) l.length k l.length 0 l.length S) {q : List Nat} (h : State l S i ((q, k) :: Q) D) : ∃ d : Nat, Steps.sAt S i = d ∧ q ++ [k] = grd l.length (Steps.ad l) (Steps.sAt S) i d := by
  have H := hK.steps (Steps.ad_comm l)
  rcases h.2 with ⟨d, hd, hI⟩ | ⟨hn, ho⟩
  · exact ⟨d, hd, Bfs.done H hI⟩
  · exact (none_end H h.1 ho).elim
theorem State.empty (h : State l S i [] D) : Steps.sAt S i < 0 := by
  rcases h.2 with ⟨d, _, hI⟩ | ⟨hn, _⟩
  · exact (not_nil hI).elim
  · exact hn
end Go.Proofs.Ytncdkfkihfhcgaa.ChainQ
