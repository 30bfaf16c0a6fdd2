/- A list that is taken from in front and appended to (Came): one element more, one less, over new memory. -/
import Derived.Test.YtncdkfkihfhcgaaKeep
import Derived.Deep.Onto
import Derived.Laws.OwnMore
import Derived.ArgAppend
namespace Go.Proofs.Ytncdkfkihfhcgaa.Queue
open Go.RowKit Go.Proofs.Ytncdkfkihfhcgaa.Mem Go.Proofs.Ytncdkfkihfhcgaa.Boxes Go.Proofs.Ytncdkfkihfhcgaa.Keep
set_option linter.unusedVariables false
theorem came_next {W w : World} {e : TypeId} {ao : Option Addr} {b off len cap : Nat} {olds ks : List Value} {v : Value} (hc : Came W 1 ao b off len cap olds) (h : Onto W e 1 ao b off len cap olds w v 1 ks) :
    ∃ b' off' cap', v = .slice (some ⟨b', off', none⟩) (len + 1) cap' ∧ Came w 1 (some ⟨b', off', none⟩) b' off' (len + 1) cap' (olds ++ ks) ∧ (b' = b ∨ W.heap.size ≤ b') := by
  have hk : ks.length = 1 := by have := h.ksLen; omega
  have ho : olds.length = len := by have := hc.oldsLen; omega
  rcases h.val with ⟨hle, hv⟩ | ⟨hgt, hown⟩
  · have hcap : 0 < cap := by omega
    have hb := hc.lt hcap
    have ha := hc.addr hcap
    refine ⟨b, off, cap, by rw [hv, ha], ⟨hle, fun _ => rfl, fun _ => Nat.lt_of_lt_of_le hb h.kept.size, by simp [ho, hk], fun j u hu => ?_, fun j hj => ?_⟩, .inl rfl⟩
    · by_cases hj : j < len
      · rw [List.getElem?_append_left (by omega)] at hu
        rw [h.old hb (fun i h1 h2 h3 => by omega)]
        exact hc.olds j u hu
      · rw [List.getElem?_append_right (by omega)] at hu
        have hj2 : j - olds.length = 0 := by
          rcases Nat.lt_or_ge (j - olds.length) ks.length with h1 | h1
          · omega
          · rw [List.getElem?_eq_none h1] at hu; cases hu
        rw [hj2] at hu
        have := h.written 0 (by omega) (by omega)
        rw [← hu, ← this]
        congr 2
        omega
    · have hs := hc.spare (j + 1) (by omega)
      have e : off + len * 1 + (j + 1) = off + (len + 1) * 1 + j := by omega
      rw [e] at hs
      rw [h.old hb (fun i h1 h2 h3 => by omega), h.frozen _ hb]
      exact hs
  · rcases hown.2 with ⟨_, h0⟩ | ⟨g, cap', cur, rfl, hgb, hh, hle, hmax, hsz, htk⟩
    · omega
    have hall : w.ownsRow W.heap.size e 1 (.slice (some ⟨g, 0, none⟩) cap' cap') cap' cur.toList :=
      ⟨by simp [hsz], .inr ⟨g, cap', cur, rfl, hgb, hh, Nat.le_refl _, hmax, hsz, List.take_of_length_le (by simp [hsz])⟩⟩
    have hlt : g < w.heap.size := own_lt hall
    refine ⟨g, 0, cap', rfl, ⟨hle, fun _ => rfl, fun _ => hlt, by simp [ho, hk], fun j u hu => ?_, fun j hj => ?_⟩, .inr hgb⟩
    · have hj : j < (len + 1) * 1 := by
        rcases Nat.lt_or_ge j (olds ++ ks).length with h1 | h1
        · simp [ho, hk] at h1; omega
        · rw [List.getElem?_eq_none h1] at hu; cases hu
      rw [Nat.zero_add, hown.cellAt j hj]; exact hu
    · have e : 0 + (len + 1) * 1 + j = len + 1 + j := by omega
      rw [e, hall.cellAt (len + 1 + j) (by omega), hall.frozenAt]
      refine ⟨?_, rfl⟩
      rw [List.getElem?_eq_getElem (by simp [hsz]; omega)]; rfl
theorem came_tail {w : World} {ao ao' : Option Addr} {b off len cap : Nat} {x : Value} {olds : List Value} (hc : Came w 1 ao b off (len + 1) cap (x :: olds)) (ha : 0 < cap - 1 → ao' = some ⟨b, off + 1, none⟩) : Came w 1 ao' b (off + 1) len (cap - 1) olds := by
  have hle := hc.le
  have hl := hc.oldsLen
  refine ⟨by omega, ha, fun _ => hc.lt (by omega), by simp at hl; omega, fun j u hu => ?_, fun j hj => ?_⟩
  · have := hc.olds (j + 1) u (by simpa using hu)
    rw [show off + 1 + j = off + (j + 1) by omega]; exact this
  · have := hc.spare j (by omega)
    rw [show off + 1 + len * 1 + j = off + (len + 1) * 1 + j by omega]; exact this
theorem came_head {w : World} {ao : Option Addr} {b off len cap : Nat} {x : Value} {olds : List Value} (hc : Came w 1 ao b off (len + 1) cap (x :: olds)) : ao = some ⟨b, off, none⟩ ∧ w.cell? ⟨b, off, none⟩ = some x := by
  have hle := hc.le
  exact ⟨hc.addr (by omega), by have := hc.olds 0 x rfl; simpa using this⟩
theorem came_keep {w w' : World} {ao : Option Addr} {b off len cap : Nat} {olds : List Value} (hc : Came w 1 ao b off len cap olds) (hb : Below w.heap.size w w') : Came w' 1 ao b off len cap olds := by
  have hle := hc.le
  have hl := hc.oldsLen
  refine ⟨hle, hc.addr, fun h => Nat.lt_of_lt_of_le (hc.lt h) hb.size, hl, fun j u hu => ?_, fun j hj => ?_⟩
  · have h0 : j < olds.length := by
      rcases Nat.lt_or_ge j olds.length with h1 | h1
      · exact h1
      · rw [List.getElem?_eq_none h1] at hu; cases hu
    rw [(bcell hb).1 _ _ (hc.lt (by omega))]; exact hc.olds j u hu
  · have := hc.lt (by omega)
    rw [(bcell hb).1 _ _ this, (bcell hb).2 _ _ this]; exact hc.spare j hj
/-- a literal of one element. -/
theorem came_lit (u : World) (x : Value) (T : TypeId) : Came (u.alloc (.cells #[x] T)) 1 (some ⟨u.heap.size, 0, none⟩) u.heap.size 0 1 1 [x] := by
  have h : (u.alloc (.cells #[x] T)).ownsRow u.heap.size T 1 (.slice (some ⟨u.heap.size, 0, none⟩) 1 1) 1 [x] := by
    have := World.ownsRow_lit u #[x] 1 (e := T) (size := 1) (base := u.heap.size) (Nat.le_refl _) (by unfold maxLen; omega) rfl
    simpa using this
  refine ⟨Nat.le_refl _, fun _ => rfl, fun _ => own_lt h, rfl, fun j v hv => ?_, fun j hj => by omega⟩
  have hj : j < 1 * 1 := by
    rcases Nat.lt_or_ge j [x].length with h1 | h1
    · exact h1
    · rw [List.getElem?_eq_none h1] at hv; cases hv
  rw [Nat.zero_add, h.cellAt j hj]; exact hv
/-- what a row of the call's own is, as Came has it. -/
theorem came_own {w : World} {base : Nat} {e : TypeId} {len : Nat} {v : Value} {xs : List Value} (hown : w.ownsRow base e 1 v len xs) (h0 : 0 < len) : ∃ g cap', v = .slice (some ⟨g, 0, none⟩) len cap' ∧ Came w 1 (some ⟨g, 0, none⟩) g 0 len cap' xs ∧ base ≤ g := by
  have hxl := hown.1
  rcases hown.2 with ⟨_, h1⟩ | ⟨g, cap', cur, rfl, hgb, hh, hle, hmax, hsz, htk⟩
  · omega
  have hall : w.ownsRow base e 1 (.slice (some ⟨g, 0, none⟩) cap' cap') cap' cur.toList :=
    ⟨by simp [hsz], .inr ⟨g, cap', cur, rfl, hgb, hh, Nat.le_refl _, hmax, hsz, List.take_of_length_le (by simp [hsz])⟩⟩
  refine ⟨g, cap', rfl, ⟨hle, fun _ => rfl, fun _ => own_lt hall, hxl, fun j u hu => ?_, fun j hj => ?_⟩, hgb⟩
  · have hj : j < len * 1 := by
      rcases Nat.lt_or_ge j xs.length with h1 | h1
      · omega
      · rw [List.getElem?_eq_none h1] at hu; cases hu
    rw [Nat.zero_add, hown.cellAt j hj]; exact hu
  · have e : 0 + len * 1 + j = len + j := by omega
    rw [e, hall.cellAt (len + j) (by omega), hall.frozenAt]
    refine ⟨?_, rfl⟩
    rw [List.getElem?_eq_getElem (by simp [hsz]; omega)]; rfl
theorem came_room {w : World} {b off len cap : Nat} {olds : List Value} {x : Value} (hc : Came w 1 (some ⟨b, off, none⟩) b off len cap olds) (hr : len + 1 ≤ cap) : Came (w.setCells b (off + len * 1) [x]) 1 (some ⟨b, off, none⟩) b off (len + 1) cap (olds ++ [x]) ∧ w.grownBy (w.setCells b (off + len * 1) [x]) (some b) := by
  have ho : olds.length = len := by have := hc.oldsLen; omega
  have hb := hc.lt (by omega)
  have hsome : ∀ j, j < [x].length → (w.cell? ⟨b, off + len * 1 + j, none⟩).isSome = true := fun j hj => (hc.spare j (by simp at hj; omega)).1
  have hout : ∀ o', o' ≠ off + len * 1 → (w.setCells b (off + len * 1) [x]).cell? ⟨b, o', none⟩ = w.cell? ⟨b, o', none⟩ := fun o' hne =>
    World.cell?_setCells_out b [x] _ w ⟨b, o', none⟩ (fun _ _ => by simp; omega)
  refine ⟨⟨hr, fun _ => rfl, fun _ => ?_, by simp [ho], fun j u hu => ?_, fun j hj => ?_⟩, ?_⟩
  · show b < (w.setCell ⟨b, off + len * 1, none⟩ x).heap.size
    rw [size_set']; exact hb
  · by_cases hj : j < len
    · rw [List.getElem?_append_left (by omega)] at hu
      rw [hout _ (by omega)]; exact hc.olds j u hu
    · rw [List.getElem?_append_right (by omega)] at hu
      have hj2 : j - olds.length = 0 := by
        rcases Nat.lt_or_ge (j - olds.length) [x].length with h1 | h1
        · simpa using h1
        · rw [List.getElem?_eq_none h1] at hu; cases hu
      have := World.cell?_setCells_in b [x] (off + len * 1) w hsome 0 (by simp)
      rw [hj2] at hu
      rw [show off + j = off + len * 1 + 0 by omega, this]
      simpa using hu
  · have hs := hc.spare (j + 1) (by omega)
    have e : off + len * 1 + (j + 1) = off + (len + 1) * 1 + j := by omega
    rw [e] at hs
    rw [hout _ (by omega), World.frozen?_setCells]
    exact hs
  · exact World.grownBy.setOwn (g := b) (n := 0) (c := 0) (World.grownBy.refl w _) (off + len * 1) x
/-- one element more, for the walk: it goes on in one way. -/
theorem wpList_append_came {P : Program} (w : World) {ops : Array Oper} {rest : List Oper} {o : Oper} {a : Act} {Q : Exit → Act → World → Prop}
    (hg : o.guard = none) (s x : Operand) (t : TypeId) (hop : o.op = Op.call { callee := Callee.builtin Builtin.append, args := #[s, x], argTypes := #[t, t] })
    (e : TypeId) (i : TypeInfo) (z : Value) (bytes : Nat) (h1 : P.underlying t = some (.slice e)) (h2 : P.info? e = some i) (h3 : i.zero = some z) (h4 : i.size = 1) (h5 : i.bytes = bytes) (h6 : z.cells.size = 1)
    (b off n cap : Nat) (olds : List Value) (hs : a.eval s = .slice (some ⟨b, off, none⟩) n cap) (hc : Came w 1 (some ⟨b, off, none⟩) b off n cap olds)
    (ad : Addr) (c : Nat) (new : Value) (hx : a.eval x = .slice (some ad) 1 c) (hnew : ∀ j u, [new][j]? = some u → w.cell? (ad.add j) = some u) (h1c : ∀ u ∈ [new], u.oneCell' = true)
    (b1 : n + 1 ≤ maxLen) (b2 : (n + 1) * bytes ≤ 140737488355328)
    (hK : ∀ b' off' cap' w', Came w' 1 (some ⟨b', off', none⟩) b' off' (n + 1) cap' (olds ++ [new]) → w.grownBy w' (some b) → (b' = b ∨ w.heap.size ≤ b') → wpList P ops Q rest (a.put o.dst (.slice (some ⟨b', off', none⟩) (n + 1) cap')) w') :
    wpList P ops Q (o :: rest) a w := by
  refine wpList_append_arg w hg s x t hop e i z 1 bytes h1 h2 h3 h4 h5 h6 (by decide) b off n cap olds hs hc.oldsLen hc.olds ad 1 c [new] hx rfl hnew h1c (fun hr j hj => hc.spare j (by simp at hj; omega)) b1 b2 (fun hr => ?_) (fun hgt v' w' r1 r2 => ?_)
  · obtain ⟨k1, k2⟩ := came_room hc hr (x := new)
    exact hK b off cap _ k1 k2 (.inl rfl)
  · obtain ⟨g, cap', rfl, k1, k2⟩ := came_own r1 (by omega)
    exact hK g 0 cap' w' k1 ⟨r2.os, r2.tape, r2.output, r2.size, fun k hk _ => r2.block k hk (by simp)⟩ (.inr k2)
end Go.Proofs.Ytncdkfkihfhcgaa.Queue
