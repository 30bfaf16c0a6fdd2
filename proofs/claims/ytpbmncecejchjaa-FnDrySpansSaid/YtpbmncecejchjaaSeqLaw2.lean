/- A range over an iterator that makes new blocks alone (a method value: its receiver is bound ahead of the arguments), and whose rounds all go on. -/
import Derived.RangeFuncFrom
import Derived.RangeFuncCalls
import Derived.Test.YtpbmncecejchjaaMem
namespace Go.Proofs.Ytpbmncecejchjaa.SeqLaw2
open Go Go.RowKit
set_option linter.unusedVariables false
variable {F : Fence} {n : Nat} {P : Program}

/-- J bears new blocks. -/
def Bears (J : Nat → World → Prop) : Prop := ∀ k U V, J k U → U.grownBy V none → J k V

/-- g (with lb captured) hands the values xs on, one a round, where every round goes on and keeps Kp. -/
def Hands (F : Fence) (n : Nat) (P : Program) (g : Nat) (bd lb : Array Value) (xs : List Value) (Kp : World → World → Prop) (w : World) : Prop :=
  ∀ (l : Nat) (J : Nat → World → Prop) (W : World), Kp w W → Bears J →
    (∀ k v U, xs[k]? = some v → J k U → YieldAt F (n - 1) P l #[v] U fun e V => e = .returned (.bool true) ∧ J (k + 1) V ∧ Kp U V) →
    J 0 W → CallsIn F n P g (bd ++ #[.func (.yield l) #[] #[]] ++ lb) W fun e V => (∃ v, e = .returned v) ∧ J xs.length V

theorem bears_heap {s : Nat} {o : Obj} {U V : World} (hs : U.heap[s]? = some o) (hg : U.grownBy V none) : V.heap[s]? = some o :=
  (hg.block s (Array.getElem?_eq_some_iff.1 hs).1 (by simp)).trans hs

theorem range_hands {g : Operand} {ps : Array Tmp} {assign body : Code} {Q : Exit → Act → World → Prop} {a : Act} {w : World}
    (hro : F.round = none) (h1 : 1 ≤ n) {gf : Nat} {bd lb : Array Value} (hg : a.eval g = .func (.func gf) bd lb) (hFg : F.fn gf) (eg : ∀ args u, (callFunc gf args).run P u = .ok (.enter gf args) u)
    {xs : List Value} {Kp : World → World → Prop} (hseq : Hands F (n - 1) P gf bd lb xs Kp w)
    (hKr : ∀ U, Kp U U) (hKt : ∀ {X Y Z : World}, Kp X Y → Kp Y Z → Kp X Z) (hKn : ∀ U o, w.heap.size ≤ U.heap.size → Kp U (U.alloc o)) (hKb : ∀ U l o o', w.heap.size ≤ l → U.heap[l]? = some o → o.isCells = false → Kp U (U.putObj l o')) (hps : ps.size = 1)
    (I : Nat → World → Prop) (hI : ∀ k U V row, I k U → U.grownBy V row → (∀ r, row = some r → (w.heap.size ≤ r ∧ ∃ o : Obj, U.heap[r]? = some o ∧ o.isCells = false)) → I k V)
    (h0 : I 0 w) (Ax : Value → Act → World → Prop)
    (hAx : ∀ v b U l o o', Ax v b U → w.heap.size ≤ l → U.heap[l]? = some o → o.isCells = false → Ax v b (U.putObj l o'))
    (hassign : ∀ (l k : Nat) (v : Value) (W : World) (K : Act → World → Prop), xs[k]? = some v → I k W → (∀ b V, Ax v b V → KeepsOthers W V → Kp W V → I k V → K b V) →
      assign.wpIn (F.inRound l) (n - 1 - 1) P (Exit.then K (fun _ _ _ => False)) { tmps := (ps.zip #[v]).foldl (fun t (p, v) => t.setIfInBounds p v) a.tmps, defers := [] } W)
    (hbody : ∀ (l k : Nat) (v : Value) (b : Act) (W : World), xs[k]? = some v → I k W → Ax v b W → body.wpIn (F.inRound l) (n - 1 - 1) P (fun e _ V => e = .normal ∧ KeepsOthers W V ∧ Kp W V ∧ I (k + 1) V) b W)
    (hdone : ∀ (D : Nat) (W : World), w.heap.size ≤ D → I xs.length W → W.heap[D]? = some (.deferred (some [])) → Q .normal { a with defers := { target := .collected D, args := #[] } :: a.defers } W) :
    (Code.rangeFunc g ps assign body).wpIn F n P Q a w := by
  refine wpIn_rangeFunc ?_
  intro fn hfn
  rw [hro]
  -- the record's states, under one name
  let R : LoopState → Option Code → Loop := fun st pe => { state := st, pending := pe, fn, tmps := a.tmps, params := ps, assign, body, defers := w.heap.size }
  have hmine : ∀ {U : World} {l : Nat} {o : Obj} (o' : Obj) (k : Nat), w.heap.size ≤ l → U.heap[l]? = some o → o.isCells = false → I k U → I k (U.putObj l o') := fun o' k hl ho hc hi =>
    hI k _ _ _ hi (grownBy_putObj' _ _ _) fun r e => by cases e; exact ⟨hl, _, ho, hc⟩
  have hnew : ∀ (U : World) (o : Obj) (k : Nat), I k U → I k (U.alloc o) := fun U o k hi => hI k U _ none hi (World.grownBy_alloc U o none) (fun r e => by cases e)
  generalize hV : (w.alloc (.deferred (some []))).alloc (.loop (R .ready none)) = V0
  have hsz : V0.heap.size = w.heap.size + 2 := by rw [← hV]; simp
  have hL0 : V0.heap[w.heap.size + 1]? = some (.loop (R .ready none)) := by
    rw [← hV]; simpa using World.alloc_heap_new (w.alloc (.deferred (some []))) (.loop (R .ready none))
  have hD0 : V0.heap[w.heap.size]? = some (.deferred (some [])) := by
    rw [← hV]; exact (Below.heap_alloc _ _ _ (by simp)).trans (World.alloc_heap_new w _)
  have hI0 : I 0 V0 := by rw [← hV]; exact hnew _ _ _ (hnew _ _ _ h0)
  have hK0 : Kp w V0 := by rw [← hV]; exact hKt (hKn _ _ (Nat.le_refl _)) (hKn _ _ (by simp))
  refine ⟨w.heap.size + 1, [{ target := .collected w.heap.size, args := #[] }], V0, { target := .fn (.func gf) lb, args := bd ++ #[.func (.yield (w.heap.size + 1)) #[] #[]] }, V0, gf,
    bd ++ #[.func (.yield (w.heap.size + 1)) #[] #[]] ++ lb, V0, by rw [← hV]; exact run_enterLoop_outer _ _ _ _ _, by simp only [resolve, hg]; simp [go_sem],
    fun f' hf' => by simp [Target.leads] at hf'; subst hf'; exact hFg, by simp [invoke, go_sem, eg], fun _ => h1, ?_⟩
  refine (hseq (w.heap.size + 1) (fun k U => I k U ∧ U.heap[w.heap.size + 1]? = some (.loop (R .ready none)) ∧ U.heap[w.heap.size]? = some (.deferred (some []))) V0 hK0 ?_ ?_ ⟨hI0, hL0, hD0⟩).mono ?_
  · rintro k U V ⟨hi, hl, hd⟩ hg'
    exact ⟨hI k U V none hi hg' (fun r e => by cases e), bears_heap hl hg', bears_heap hd hg'⟩
  · rintro k v U hv ⟨hi, hl, hd⟩
    have hlt := (Array.getElem?_eq_some_iff.1 hl).1
    refine ⟨fn, _, assign, body, run_yield (P := P) (args := #[v]) hl (by simp [R, hps]), roundIn_of_wpIn hfn (hassign _ k v U _ hv hi (fun b U1 hax hko1 hkp1 hi1 => ?_))⟩
    have hl1 := hko1.same _ _ hl rfl
    have hd1 := hko1.same _ _ hd rfl
    have hlt1 := (Array.getElem?_eq_some_iff.1 hl1).1
    refine ⟨_, run_beginRound hl1 rfl, ?_⟩
    generalize hX : U1.putObj (w.heap.size + 1) (.loop { R .ready none with state := .busy }) = X
    have hlX : X.heap[w.heap.size + 1]? = some (.loop { R .ready none with state := .busy }) := by rw [← hX]; exact World.putObj_heap_same hlt1
    have hdX : X.heap[w.heap.size]? = some (.deferred (some [])) := by rw [← hX]; exact (World.putObj_heap_other (by omega)).trans hd1
    have hiX : I k X := by rw [← hX]; exact hmine _ k (by omega) hl1 rfl hi1
    have hkX : Kp U1 X := by rw [← hX]; exact hKb _ _ _ _ (by omega) hl1 rfl
    have haX : Ax v b X := by rw [← hX]; exact hAx _ _ _ _ _ _ hax (by omega) hl1 rfl
    refine wpIn_mono (hbody _ k v b X hv hiX haX) ?_
    rintro e a3 V ⟨rfl, hko, hkp, hiV⟩
    have hlV := hko.same _ _ hlX rfl
    have hdV := hko.same _ _ hdX rfl
    have hend := run_endRound (P := P) none hlV
    refine ⟨_, _, hend, rfl, ⟨hmine _ (k + 1) (by omega) hlV rfl hiV, World.putObj_heap_same (Array.getElem?_eq_some_iff.1 hlV).1, (World.putObj_heap_other (by omega)).trans hdV⟩, hKt hkp1 (hKt (hKt hkX hkp) (hKb _ _ _ _ (by omega) hlV rfl))⟩
  · rintro e V ⟨⟨v, rfl⟩, hi, hl, hd⟩
    exact ⟨none, _, run_endLoop (P := P) hl (by simp [R]), hdone _ _ (Nat.le_refl _) (hmine _ _ (by omega) hl rfl hi) ((World.putObj_heap_other (by omega)).trans hd)⟩
end Go.Proofs.Ytpbmncecejchjaa.SeqLaw2
