/- A region that draws its order and whose operations give values that hang on the order (new memory's places, draws): a condition that speaks of the values too, kept by each operation from any state that has it, holds behind every order. My own. -/
import Derived.Test.YtngominkeammiaaRegn
namespace Go.Proofs.Ytngominkeammiaa.Regn
open Go
set_option linter.unusedVariables false
/-- a with f's values in the slots ds. -/
def puts (a : Act) : List Nat → (Nat → Value) → Act
  | [], _ => a
  | d :: ds, f => (puts a ds f).put (some d) (f d)
def upd (f : Nat → Value) : Option Tmp → Value → Nat → Value
  | none, _ => f
  | some d, v => fun x => if x = d then v else f x
theorem put_defers (a : Act) (o : Option Tmp) (v : Value) : (a.put o v).defers = a.defers := by cases o <;> rfl
theorem puts_defers (a : Act) (ds : List Nat) (f : Nat → Value) : (puts a ds f).defers = a.defers := by
  induction ds with
  | nil => rfl
  | cons d ds ih => rw [puts, put_defers, ih]
theorem put_at (a : Act) (d : Nat) (v : Value) (k : Nat) : (a.put (some d) v).tmps[k]? = if d = k ∧ k < a.tmps.size then some v else a.tmps[k]? := by
  show (a.tmps.setIfInBounds d v)[k]? = _
  by_cases h : d = k
  · subst h
    by_cases h2 : d < a.tmps.size
    · rw [Array.getElem?_setIfInBounds_self_of_lt h2, if_pos ⟨rfl, h2⟩]
    · rw [if_neg (by omega), Array.setIfInBounds_eq_of_size_le (by omega)]
  · rw [if_neg (by omega), Array.getElem?_setIfInBounds_ne h]
theorem put_size (a : Act) (d : Nat) (v : Value) : (a.put (some d) v).tmps.size = a.tmps.size := by
  show (a.tmps.setIfInBounds d v).size = _
  simp
theorem puts_size (a : Act) (ds : List Nat) (f : Nat → Value) : (puts a ds f).tmps.size = a.tmps.size := by
  induction ds with
  | nil => rfl
  | cons d ds ih => rw [puts, put_size, ih]
theorem puts_at (a : Act) (ds : List Nat) (f : Nat → Value) (k : Nat) : (puts a ds f).tmps[k]? = if k ∈ ds ∧ k < a.tmps.size then some (f k) else a.tmps[k]? := by
  induction ds with
  | nil => rw [if_neg (by simp)]; rfl
  | cons d ds ih =>
    rw [puts, put_at, puts_size, ih]
    by_cases h : d = k
    · subst h
      by_cases h2 : d < a.tmps.size
      · rw [if_pos ⟨rfl, h2⟩, if_pos ⟨by simp, h2⟩]
      · rw [if_neg (by omega), if_neg (by omega), if_neg (by omega)]
    · rw [if_neg (by omega)]
      have : (k ∈ d :: ds) ↔ k ∈ ds := by simp; omega
      simp only [this]
theorem act_ext {a b : Act} (hd : a.defers = b.defers) (ht : ∀ k : Nat, a.tmps[k]? = b.tmps[k]?) : a = b := by
  have e : a.tmps = b.tmps := Array.ext_getElem? ht
  cases a; cases b
  simp only at e hd
  rw [e, hd]
theorem puts_put {a : Act} {ds : List Nat} {f : Nat → Value} {o : Option Tmp} (ho : ∀ d, o = some d → d ∈ ds) (v : Value) : (puts a ds f).put o v = puts a ds (upd f o v) := by
  cases o with
  | none => rfl
  | some d =>
    have hd := ho d rfl
    refine act_ext (by rw [put_defers, puts_defers, puts_defers]) fun k => ?_
    rw [put_at, puts_at, puts_at, puts_size]
    by_cases h : d = k
    · subst h
      by_cases h2 : d < a.tmps.size
      · rw [if_pos ⟨rfl, h2⟩, if_pos ⟨hd, h2⟩]; simp [upd]
      · rw [if_neg (fun h => h2 h.2), if_neg (fun h => h2 h.2), if_neg (fun h => h2 h.2)]
    · rw [if_neg (fun h3 => h h3.1)]
      have : upd f (some d) v k = f k := by simp [upd]; intro e; exact absurd e.symm h
      rw [this]
theorem puts_self (a : Act) (ds : List Nat) : puts a ds (fun d => (a.tmps[d]?).getD undef) = a := by
  refine act_ext (puts_defers _ _ _) fun k => ?_
  rw [puts_at]
  split
  · rename_i h
    rw [Array.getElem?_eq_getElem h.2]; rfl
  · rfl

section
variable {P : Program} {ops : Array Oper} {Q : Exit → Act → World → Prop} {S : (Nat → Prop) → (Nat → Value) → World → Prop} {a : Act} {ds : List Nat}
/-- Operation i from any state of S (it is not done yet, all before it are): to a state of S. -/
def StepR (P : Program) (ops : Array Oper) (a : Act) (ds : List Nat) (S : (Nat → Prop) → (Nat → Value) → World → Prop) (i : Nat) (o : Oper) : Prop :=
  ∀ (L : Nat → Prop) (f : Nat → Value) (w : World) (K : Act → World → Prop), Shut (Behind ops i L) → S L f w → Shut (∀ v w', S (fun j => L j ∨ j = i) (upd f o.dst v) w' → K ((puts a ds f).put o.dst v) w') →
    if Region.wanted o (yielded ops (puts a ds f).tmps) = true then Oper.wp P o (puts a ds f) w K NoQ else K ((puts a ds f).put o.dst undef) w
def RelH (P : Program) (ops : Array Oper) (a : Act) (ds : List Nat) (S : (Nat → Prop) → (Nat → Value) → World → Prop) : Nat → List Oper → Prop
  | _, [] => True
  | i, o :: rest => StepR P ops a ds S i o ∧ RelH P ops a ds S (i + 1) rest
theorem RelH.at : ∀ {l : List Oper} {k : Nat}, RelH P ops a ds S k l → ∀ i o, l[i]? = some o → StepR P ops a ds S (k + i) o := by
  intro l
  induction l with
  | nil => intro k _ i o h; simp at h
  | cons x rest ih =>
    intro k h i o hi
    cases i with
    | zero =>
      have e : x = o := by simpa using hi
      subst e; exact h.1
    | succ i => have := ih h.2 i o (by simpa using hi); rwa [show k + 1 + i = k + (i + 1) by omega] at this
theorem RelH.op {i : Nat} {o : Oper} {rest : List Oper} (h : ∀ (L : Nat → Prop) (f : Nat → Value) (w : World) (K : Act → World → Prop), Shut (Behind ops i L) → S L f w → Shut (∀ v w', S (fun j => L j ∨ j = i) (upd f o.dst v) w' → K ((puts a ds f).put o.dst v) w') →
    if Region.wanted o (yielded ops (puts a ds f).tmps) = true then Oper.wp P o (puts a ds f) w K NoQ else K ((puts a ds f).put o.dst undef) w) (hr : RelH P ops a ds S (i + 1) rest) : RelH P ops a ds S i (o :: rest) := ⟨h, hr⟩
/-- the same, the state behind the operation told by an equation. -/
theorem RelH.op2 {i : Nat} {o : Oper} {rest : List Oper} (h : ∀ (L : Nat → Prop) (f : Nat → Value) (w : World) (K : Act → World → Prop), Shut (Behind ops i L) → S L f w → Shut (∀ v w', S (fun j => L j ∨ j = i) (upd f o.dst v) w' → ∀ b', (puts a ds f).put o.dst v = b' → K b' w') →
    if Region.wanted o (yielded ops (puts a ds f).tmps) = true then Oper.wp P o (puts a ds f) w K NoQ else K ((puts a ds f).put o.dst undef) w) (hr : RelH P ops a ds S (i + 1) rest) : RelH P ops a ds S i (o :: rest) :=
  ⟨fun L f w K h1 h2 h3 => h L f w K h1 h2 (fun v w' hs b' e => e ▸ h3 v w' hs), hr⟩
theorem RelH.done {i : Nat} : RelH P ops a ds S i [] := trivial
/-- all slots that the operations fill are among ds. -/
def dstOk (ops : Array Oper) (ds : List Nat) : Bool := ops.all fun o => match o.dst with | none => true | some d => ds.contains d
theorem dstOk_spec (h : dstOk ops ds = true) {i : Nat} {o : Oper} (ho : ops[i]? = some o) : ∀ d, o.dst = some d → d ∈ ds := by
  intro d hd
  have := Array.all_eq_true_iff_forall_mem.1 h o (Array.mem_of_getElem? ho)
  rw [hd] at this
  simpa using this
/-- the same, the state at the start told of the values that stand there. -/
theorem wp_region_rel0 {id : Nat} {w : World} (ds : List Nat) (S : (Nat → Prop) → (Nat → Value) → World → Prop) (hm : P.follows .mixedOrders = true) (hok : seqOk ops = true) (hds : dstOk ops ds = true)
    (h0 : S (fun _ => False) (fun d => (a.tmps[d]?).getD undef) w.drew) (h : RelH P ops a ds S 0 ops.toList) (hQ : ∀ (L : Nat → Prop) (f : Nat → Value) (u : World), (∀ j, j < ops.size → L j) → S L f u → Q .normal (puts a ds f) u) : (Code.region id ops true).wp P Q a w := by
  obtain ⟨hsel, hall⟩ := seqOk_spec hok
  have hst : ∀ i o, ops[i]? = some o → StepR P ops a ds S i o := fun i o ho => by have := h.at i o (by simpa using ho); rwa [Nat.zero_add] at this
  have hdone : ∀ (listed : Array Bool), listed.size = ops.size → Region.ready .any ops listed = [] → ∀ j, j < ops.size → listed.getD j false = true := by
    intro listed hz hr j
    induction j using Nat.strongRecOn with
    | ind j ih =>
      intro hj
      have hjz : j < listed.size := by omega
      cases h1 : listed[j] with
      | true => simp [hjz, h1]
      | false =>
        exfalso
        have ho : ops[j]? = some ops[j] := Array.getElem?_eq_getElem hj
        have hm : j ∈ Region.ready .any ops listed := mem_ready.2 ⟨by simp [hjz, h1], ops[j], ho, fun e he hb => by
            have hlt := (hall j _ ho).1 e he hb
            exact ih e.on hlt (by omega)⟩
        rw [hr] at hm; cases hm
  have main : ∀ (fuel : Nat) (listed : Array Bool) (f : Nat → Value) (w : World), listed.size = ops.size → listed.toList.count false ≤ fuel →
      (∀ j oj, listed.getD j false = true → ops[j]? = some oj → ∀ e ∈ oj.after, Region.binds .any e = true → listed.getD e.on false = true) →
      S (fun j => listed.getD j false = true) f w → wpAny P .any ops Q fuel listed (puts a ds f) w := by
    intro fuel
    induction fuel with
    | zero =>
      intro listed f w hz hc hcl hS
      have hl : ∀ j, j < ops.size → listed.getD j false = true := by
        intro j hj
        have hjz : j < listed.size := by omega
        have h0 : false ∉ listed.toList := List.count_eq_zero.1 (by omega)
        have h1 : listed[j] ∈ listed.toList := by rw [Array.mem_toList_iff]; exact Array.getElem_mem hjz
        have h2 : listed[j] ≠ false := fun e => h0 (e ▸ h1)
        simp [hjz]; simpa using h2
      refine ⟨?_, hQ _ f w hl hS⟩
      cases hr : Region.ready .any ops listed with
      | nil => rfl
      | cons x xs =>
        exfalso
        have hx : x ∈ Region.ready .any ops listed := by rw [hr]; simp
        obtain ⟨h0, o, ho, _⟩ := mem_ready.1 hx
        have hlt : x < ops.size := (Array.getElem?_eq_some_iff.1 ho).1
        have h1 := hl x hlt
        have hxz : x < listed.size := by omega
        simp [hxz] at h0 h1
        rw [h0] at h1; cases h1
    | succ fuel ih =>
      intro listed f w hz hc hcl hS
      refine ⟨fun hr => hQ _ f w (hdone listed hz hr) hS, fun i hi => ?_⟩
      obtain ⟨h0, o, ho, haf⟩ := mem_ready.1 hi
      have hlt : i < ops.size := (Array.getElem?_eq_some_iff.1 ho).1
      have hiz : i < listed.size := by omega
      have h0' : listed[i] = false := by simpa [hiz] using h0
      have hun : ¬ listed.getD i false = true := by simp [hiz, h0']
      have hiff : ∀ j, (listed.setIfInBounds i true).getD j false = true ↔ (listed.getD j false = true ∨ j = i) := by
        intro j
        by_cases hji : j = i
        · subst hji; simp [hiz]
        · rw [getD_set_ne false (Ne.symm hji)]; simp [hji]
      have hL : (fun j => (listed.setIfInBounds i true).getD j false = true) = (fun j => listed.getD j false = true ∨ j = i) := funext fun j => propext (hiff j)
      have hnext : ∀ v w', S (fun j => listed.getD j false = true ∨ j = i) (upd f o.dst v) w' → wpAny P .any ops Q fuel (listed.setIfInBounds i true) ((puts a ds f).put o.dst v) w' := by
        intro v w' hS'
        rw [puts_put (dstOk_spec hds ho)]
        refine ih _ _ w' (by simpa using hz) ?_ ?_ (by rw [hL]; exact hS')
        · have hcs : (listed.setIfInBounds i true).toList.count false = listed.toList.count false - 1 := by
            rw [Array.toList_setIfInBounds, List.count_set (by simpa using hiz)]
            simp [h0']
          rw [hcs]; omega
        · intro j oj hj hoj e he hb
          rcases (hiff j).1 hj with h1 | rfl
          · exact (hiff _).2 (.inl (hcl j oj h1 hoj e he hb))
          · rw [ho] at hoj; cases hoj
            exact (hiff _).2 (.inl (haf e he hb))
      unfold wpOp
      simp only [ho]
      have hbe : Behind ops i (fun j => listed.getD j false = true) := behind_of hcl hun (fun o' ho' => by rw [ho] at ho'; cases ho'; exact haf)
      have hs1 := hst i o ho _ f w (fun b' w' => ∃ v, b' = (puts a ds f).put o.dst v ∧ S (fun j => listed.getD j false = true ∨ j = i) (upd f o.dst v) w') hbe hS (fun v w' h => ⟨v, rfl, h⟩)
      have hput : ∀ {u v : Value}, (puts a ds f).put o.dst u = (puts a ds f).put o.dst v → ∀ w', S (fun j => listed.getD j false = true ∨ j = i) (upd f o.dst v) w' → wpAny P .any ops Q fuel (listed.setIfInBounds i true) ((puts a ds f).put o.dst u) w' := fun e w' hS' => by
        rw [e]; exact hnext _ w' hS'
      split
      · rename_i hw
        rw [if_pos hw] at hs1
        refine .inl (wp_move rfl (fun v w' hk => ?_) (fun d v w' hk => ?_) hs1)
        · obtain ⟨u, e, hS'⟩ := hk
          exact hput e w' hS'
        · obtain ⟨u, e, _⟩ := hk
          have e2 := congrArg Act.defers e
          rw [put_defers, put_defers] at e2
          simp at e2
      · rename_i hw
        rw [if_neg hw] at hs1
        obtain ⟨u, e, hS'⟩ := hs1
        exact hput e w hS'
  have hm2 := main ops.size (Array.replicate ops.size false) (fun d => (a.tmps[d]?).getD undef) w.drew (by simp) (by simp) (fun j oj hj => absurd hj (none_listed _ _))
    (by rw [show (fun j => (Array.replicate ops.size false).getD j false = true) = (fun _ => False) from funext fun j => eq_false (none_listed _ _)]; exact h0)
  rw [puts_self] at hm2
  exact wp_region_any hm hm2
theorem wp_region_rel {id : Nat} {w : World} (ds : List Nat) (S : (Nat → Prop) → (Nat → Value) → World → Prop) (hm : P.follows .mixedOrders = true) (hok : seqOk ops = true) (hds : dstOk ops ds = true)
    (h0 : ∀ f, S (fun _ => False) f w.drew) (h : RelH P ops a ds S 0 ops.toList) (hQ : ∀ (L : Nat → Prop) (f : Nat → Value) (u : World), (∀ j, j < ops.size → L j) → S L f u → Q .normal (puts a ds f) u) : (Code.region id ops true).wp P Q a w :=
  wp_region_rel0 ds S hm hok hds (h0 _) h hQ
end
end Go.Proofs.Ytngominkeammiaa.Regn
