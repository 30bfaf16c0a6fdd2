/- A region that draws its order of evaluation, walked once, in the text's order: where each operation gives a value of its own and keeps one condition on the world, every order ends alike. My own. -/
import Derived.Test.YtngominkeammiaaMem
import Derived.Deep.RegionHeld3
namespace Go.Proofs.Ytngominkeammiaa.Regn
open Go
set_option linter.unusedVariables false

def NoQ : Exit → Act → World → Prop := fun _ _ _ => False
theorem not_lets (h : LetsOut NoQ) : False := by obtain ⟨_, _, h⟩ := h; exact h

section
variable {P : Program} {ops : Array Oper} {Q : Exit → Act → World → Prop} {S : (Nat → Prop) → World → Prop}

/-- j comes before i, by at most f edges. -/
def pre (ops : Array Oper) : Nat → Nat → Nat → Bool
  | 0, _, _ => false
  | f + 1, i, j => ((ops[i]?).map fun o => o.after.any fun e => Region.binds .any e && (e.on == j || pre ops f e.on j)).getD false
theorem pre_spec {listed : Array Bool}
    (hcl : ∀ j oj, listed.getD j false = true → ops[j]? = some oj → ∀ e ∈ oj.after, Region.binds .any e = true → listed.getD e.on false = true) :
    ∀ (f i j : Nat), pre ops f i j = true → (∀ o, ops[i]? = some o → ∀ e ∈ o.after, Region.binds .any e = true → listed.getD e.on false = true) → listed.getD j false = true := by
  intro f
  induction f with
  | zero => intro i j h; cases h
  | succ f ih =>
    intro i j h hi
    unfold pre at h
    cases ho : ops[i]? with
    | none => rw [ho] at h; simp at h
    | some o =>
      rw [ho] at h
      obtain ⟨e, he, hb⟩ := Array.any_eq_true'.1 (show o.after.any _ = true from h)
      simp only [Bool.and_eq_true, Bool.or_eq_true, beq_iff_eq] at hb
      have hl := hi o ho e he hb.1
      rcases hb.2 with rfl | h2
      · exact hl
      · exact ih e.on j h2 fun o' ho' e' he' hb' => hcl e.on o' hl ho' e' he' hb'

theorem pre_lt (hall : ∀ i o, ops[i]? = some o → ∀ e ∈ o.after, Region.binds .any e = true → e.on < i) : ∀ (f i j : Nat), pre ops f i j = true → j < i := by
  intro f
  induction f with
  | zero => intro i j h; cases h
  | succ f ih =>
    intro i j h
    unfold pre at h
    cases ho : ops[i]? with
    | none => rw [ho] at h; simp at h
    | some o =>
      rw [ho] at h
      obtain ⟨e, he, hb⟩ := Array.any_eq_true'.1 (show o.after.any _ = true from h)
      simp only [Bool.and_eq_true, Bool.or_eq_true, beq_iff_eq] at hb
      have hl := hall i o ho e he hb.1
      rcases hb.2 with rfl | h2
      · exact hl
      · have := ih e.on j h2; omega
/-- Neither number i nor any of those that come behind it is among L; all that come before it are. -/
def Behind (ops : Array Oper) (i : Nat) (L : Nat → Prop) : Prop := (∀ j, (j == i || pre ops ops.size j i) = true → ¬ L j) ∧ (∀ j, pre ops ops.size i j = true → L j)
theorem behind_text (hall : ∀ i o, ops[i]? = some o → ∀ e ∈ o.after, Region.binds .any e = true → e.on < i) (i : Nat) : Behind ops i (fun j => j < i) :=
  ⟨fun j hj hl => by
    have hl' : j < i := hl
    rcases Bool.or_eq_true _ _ ▸ hj with h | h
    · have : j = i := by simpa using h
      omega
    · have := pre_lt hall _ _ _ h; omega, fun j hj => pre_lt hall _ _ _ hj⟩
theorem behind_of {listed : Array Bool} {i : Nat} (hcl : ∀ j oj, listed.getD j false = true → ops[j]? = some oj → ∀ e ∈ oj.after, Region.binds .any e = true → listed.getD e.on false = true)
    (hun : ¬ listed.getD i false = true) (haf : ∀ o, ops[i]? = some o → ∀ e ∈ o.after, Region.binds .any e = true → listed.getD e.on false = true) : Behind ops i (fun j => listed.getD j false = true) := by
  refine ⟨?_, fun j hj => pre_spec hcl _ i j hj haf⟩
  intro j hj hl
  rcases Bool.or_eq_true _ _ ▸ hj with h | h
  · have : j = i := by simpa using h
    subst this; exact hun hl
  · exact hun (pre_spec hcl _ j i h fun o ho e he hb => hcl j o hl ho e he hb)
/-- From state a, in every world of S (whichever operations L are done, i is not), operation i ends in state a' and in a world of S. -/
def Step (P : Program) (ops : Array Oper) (S : (Nat → Prop) → World → Prop) (i : Nat) (o : Oper) (a a' : Act) : Prop :=
  ∀ (L : Nat → Prop) (w : World) (K : Act → World → Prop), Shut (Behind ops i L) → S L w → Shut (∀ w', S (fun j => L j ∨ j = i) w' → K a' w') →
    if Region.wanted o (yielded ops a.tmps) = true then Oper.wp P o a w K NoQ else K (a.put o.dst undef) w

/-- The operations one behind another. -/
def SeqH (P : Program) (ops : Array Oper) (S : (Nat → Prop) → World → Prop) (R : Act → Prop) : Nat → List Oper → Act → Prop
  | _, [], a => R a
  | i, o :: rest, a => ∃ a', Step P ops S i o a a' ∧ SeqH P ops S R (i + 1) rest a'

theorem wp_move {o : Oper} {a b : Act} {w : World} {K K' : Act → World → Prop} (he : execOp b.eval o = execOp a.eval o)
    (hK : ∀ v w', K (a.put o.dst v) w' → K' (b.put o.dst v) w') (hD : ∀ d v w', ¬ K (Act.put { a with defers := d :: a.defers } o.dst v) w')
    (h : o.wp P a w K NoQ) : o.wp P b w K' Q := by
  unfold Oper.wp at *
  rw [he]
  generalize (execOp a.eval o).run P w = r at *
  cases r with
  | ok n w' =>
    cases n <;> simp only [Oper.upon] at h ⊢
    case value u => exact hK _ _ h
    case skip => exact hK _ _ h
    case defer d => exact absurd h (hD _ _ _)
    case enter f args =>
      refine Calls.mono h fun e w'' h2 => ?_
      cases e with
      | returned u => exact hK _ _ h2
      | panicked c => exact h2.elim
      | outgrown => exact (not_lets h2).elim
    case row row args => exact Rows.mono h fun u w'' h2 => hK _ _ h2
  | halt x w' =>
    cases x <;> simp only [Oper.upon] at h ⊢
    case panic u => exact h.elim

theorem wp_ex {o : Oper} {a : Act} {w : World} {K : Act → World → Prop} (h : o.wp P a w K NoQ) :
    (∃ v w', K (a.put o.dst v) w') ∨ (∃ d v w', K (Act.put { a with defers := d :: a.defers } o.dst v) w') := by
  unfold Oper.wp at h
  generalize (execOp a.eval o).run P w = r at *
  cases r with
  | ok n w' =>
    cases n <;> simp only [Oper.upon] at h
    case value u => exact .inl ⟨_, _, h⟩
    case skip => exact .inl ⟨_, _, h⟩
    case defer d => exact .inr ⟨_, _, _, h⟩
    case enter f args =>
      obtain ⟨e, w'', fr, h2, _⟩ := h []
      cases e with
      | returned u => exact .inl ⟨_, _, h2⟩
      | panicked c => exact h2.elim
      | outgrown => exact (not_lets h2).elim
    case row row args =>
      obtain ⟨v, w'', h2, _⟩ := h (Frame.ofRow P row args .normal) []
      exact .inl ⟨_, _, h2⟩
  | halt x w' =>
    cases x <;> simp only [Oper.upon] at h
    case panic u => exact h.elim

theorem seq_acts {R : Act → Prop} : ∀ (l : List Oper) (k : Nat) (a : Act), SeqH P ops S R k l a →
    ∃ A : Nat → Act, A 0 = a ∧ (∀ i o, l[i]? = some o → Step P ops S (k + i) o (A i) (A (i + 1))) ∧ R (A l.length) := by
  intro l
  induction l with
  | nil => intro k a h; exact ⟨fun _ => a, rfl, fun i o h => by simp at h, h⟩
  | cons o rest ih =>
    intro k a h
    obtain ⟨a', hs, hr⟩ := h
    obtain ⟨A, h0, h1, h2⟩ := ih (k + 1) a' hr
    refine ⟨fun | 0 => a | i + 1 => A i, rfl, fun i o' hi => ?_, h2⟩
    cases i with
    | zero =>
      have e : o = o' := by simpa using hi
      subst e
      show Step P ops S (k + 0) o a (A 0)
      rw [h0]; exact hs
    | succ i => have := h1 i o' (by simpa using hi); rwa [show k + 1 + i = k + (i + 1) by omega] at this

def dst (ops : Array Oper) (i : Nat) : Option Tmp := (ops[i]?).bind (·.dst)

/-- Exactly the operations of L have left their values. -/
structure Inv (ops : Array Oper) (a0 : Act) (vs : Nat → Value) (L : Nat → Prop) (b : Act) : Prop where
  defers : b.defers = a0.defers
  size : b.tmps.size = a0.tmps.size
  old : ∀ d : Nat, (∀ j, L j → dst ops j ≠ some d) → b.tmps[d]? = a0.tmps[d]?
  new : ∀ (j d : Nat), L j → dst ops j = some d → d < a0.tmps.size → b.tmps[d]? = some (vs j)

theorem Inv.put {a0 : Act} {vs : Nat → Value} {L M : Nat → Prop} {b : Act} (h : Inv ops a0 vs L b) {i : Nat} {o : Oper} (ho : ops[i]? = some o)
    (hd : ∀ j d, j ≠ i → dst ops j = some d → o.dst ≠ some d) (hM : ∀ j, M j ↔ (L j ∨ j = i)) : Inv ops a0 vs M (b.put o.dst (vs i)) := by
  have hdi : dst ops i = o.dst := by simp [dst, ho]
  cases hod : o.dst with
  | none =>
    refine ⟨h.defers, h.size, fun d hn => h.old d fun j hj => hn j ((hM j).2 (.inl hj)), fun j d hj hjd hlt => ?_⟩
    rcases (hM j).1 hj with hj | rfl
    · exact h.new j d hj hjd hlt
    · rw [hdi, hod] at hjd; cases hjd
  | some d0 =>
    refine ⟨h.defers, by simp [Act.put, h.size], fun d hn => ?_, fun j d hj hjd hlt => ?_⟩
    · have hne : d0 ≠ d := fun e => hn i ((hM i).2 (.inr rfl)) (by rw [hdi, hod, e])
      show (b.tmps.setIfInBounds d0 (vs i))[d]? = _
      rw [Array.getElem?_setIfInBounds_ne hne]
      exact h.old d fun j hj => hn j ((hM j).2 (.inl hj))
    · show (b.tmps.setIfInBounds d0 (vs i))[d]? = _
      by_cases hji : j = i
      · subst hji
        have e : d0 = d := by rw [hdi, hod] at hjd; exact Option.some.inj hjd
        subst e
        rw [Array.getElem?_setIfInBounds_self_of_lt (by rw [h.size]; exact hlt)]
      · have hne : d0 ≠ d := fun e => hd j d hji hjd (by rw [hod, e])
        rw [Array.getElem?_setIfInBounds_ne hne]
        rcases (hM j).1 hj with hj | hj
        · exact h.new j d hj hjd hlt
        · exact absurd hj hji

theorem Inv.agree {a0 : Act} {vs : Nat → Value} {L M : Nat → Prop} {b c : Act} (h : Inv ops a0 vs L b) (k : Inv ops a0 vs M c) (d : Nat)
    (hlm : ∀ j, dst ops j = some d → (L j ↔ M j)) : b.tmps[d]? = c.tmps[d]? := by
  by_cases hx : ∃ j, dst ops j = some d ∧ L j
  · obtain ⟨j, hj, hl⟩ := hx
    by_cases hlt : d < a0.tmps.size
    · rw [h.new j d hl hj hlt, k.new j d ((hlm j hj).1 hl) hj hlt]
    · rw [Array.getElem?_eq_none (by rw [h.size]; omega), Array.getElem?_eq_none (by rw [k.size]; omega)]
  · rw [h.old d fun j hl hj => hx ⟨j, hj, hl⟩, k.old d fun j hm hj => hx ⟨j, hj, (hlm j hj).2 hm⟩]

theorem eval_agree {o : Oper} {b c : Act} (hs : ∀ cs q, o.op ≠ .select cs q) (h : ∀ d ∈ o.looksAt ops, b.tmps[d]? = c.tmps[d]?) : execOp b.eval o = execOp c.eval o :=
  execOp_congr o hs fun x hx => by
    cases x with
    | tmp t =>
      have ht := h t (List.mem_append_left _ (List.mem_filterMap.2 ⟨.tmp t, by simpa using hx, rfl⟩))
      simp only [Act.eval, Array.getD_eq_getD_getElem?, ht]
    | _ => rfl
theorem wanted_agree {o : Oper} {b c : Act} (h : ∀ d ∈ o.looksAt ops, b.tmps[d]? = c.tmps[d]?) : Region.wanted o (yielded ops b.tmps) = Region.wanted o (yielded ops c.tmps) := by
  unfold Region.wanted
  cases hg : o.guard with
  | none => rfl
  | some gw =>
    obtain ⟨g, want⟩ := gw
    have hy : yielded ops b.tmps g = yielded ops c.tmps g := by
      unfold yielded
      cases ht : (ops[g]?).bind (·.dst) with
      | none => rfl
      | some t =>
        have := h t (by simp [Oper.looksAt, hg, ht])
        simp [this]
    simp only [hy]

/-- What is asked of the region's edges, as one Bool. -/
def seqOk (ops : Array Oper) : Bool :=
  Region.noSelect ops && (List.range ops.size).all fun i => match ops[i]? with
    | none => true
    | some o => o.after.all (fun e => !Region.binds .any e || decide (e.on < i)) && (List.range ops.size).all fun j => j == i || match dst ops j with
      | none => true
      | some d => !(o.dst == some d) && (!(o.looksAt ops).contains d || (decide (j < i) && o.after.any fun e => Region.binds .any e && e.on == j) ||
          (decide (i < j) && ((ops[j]?).map fun oj => oj.after.any fun e => Region.binds .any e && e.on == i).getD false))

theorem seqOk_spec (h : seqOk ops = true) : (∀ (j : Nat) (o : Oper) cs b, ops[j]? = some o → o.op ≠ .select cs b) ∧
    ∀ i o, ops[i]? = some o → (∀ e ∈ o.after, Region.binds .any e = true → e.on < i) ∧
      ∀ j d, j ≠ i → dst ops j = some d → o.dst ≠ some d ∧ (d ∈ o.looksAt ops → (j < i ∧ ∃ e ∈ o.after, Region.binds .any e = true ∧ e.on = j) ∨
        (i < j ∧ ∃ oj, ops[j]? = some oj ∧ ∃ e ∈ oj.after, Region.binds .any e = true ∧ e.on = i)) := by
  unfold seqOk at h
  rw [Bool.and_eq_true] at h
  refine ⟨Region.noSelect_spec h.1, fun i o ho => ?_⟩
  have hlt : i < ops.size := (Array.getElem?_eq_some_iff.1 ho).1
  have h1 := List.all_eq_true.1 h.2 i (List.mem_range.2 hlt)
  simp only [ho, Bool.and_eq_true] at h1
  refine ⟨fun e he hb => ?_, fun j d hji hjd => ?_⟩
  · have := Array.all_eq_true_iff_forall_mem.1 h1.1 e he
    simpa [hb] using this
  · have hjl : j < ops.size := by
      rcases Nat.lt_or_ge j ops.size with hl | hl
      · exact hl
      · simp [dst, Array.getElem?_eq_none hl] at hjd
    have h2 := List.all_eq_true.1 h1.2 j (List.mem_range.2 hjl)
    simp only [hjd, Bool.or_eq_true, beq_iff_eq, hji, false_or, Bool.and_eq_true, Bool.not_eq_true', decide_eq_true_eq, beq_eq_false_iff_ne] at h2
    refine ⟨h2.1, fun hm => ?_⟩
    rcases h2.2 with (h3 | h3) | h3
    · rw [List.contains_eq_mem] at h3; simp [hm] at h3
    · obtain ⟨e, he, hb⟩ := Array.any_eq_true'.1 h3.2
      simp only [Bool.and_eq_true, beq_iff_eq] at hb
      exact .inl ⟨h3.1, e, he, hb.1, hb.2⟩
    · refine .inr ⟨h3.1, ?_⟩
      cases hoj : ops[j]? with
      | none => rw [hoj] at h3; simp at h3
      | some oj =>
        rw [hoj] at h3
        obtain ⟨e, he, hb⟩ := Array.any_eq_true'.1 (show oj.after.any _ = true from h3.2)
        simp only [Bool.and_eq_true, beq_iff_eq] at hb
        exact ⟨oj, rfl, e, he, hb.1, hb.2⟩

theorem put_same {x y : Act} {q : Option Tmp} {u v : Value} (hs : x.tmps.size = y.tmps.size) (h : x.put q u = x.put q v) : y.put q u = y.put q v := by
  cases q with
  | none => rfl
  | some d =>
    have h1 : x.tmps.setIfInBounds d u = x.tmps.setIfInBounds d v := congrArg Act.tmps h
    show { y with tmps := y.tmps.setIfInBounds d u } = { y with tmps := y.tmps.setIfInBounds d v }
    by_cases hlt : d < x.tmps.size
    · have e1 : (x.tmps.setIfInBounds d u)[d]? = some u := Array.getElem?_setIfInBounds_self_of_lt hlt
      have e2 : (x.tmps.setIfInBounds d v)[d]? = some v := Array.getElem?_setIfInBounds_self_of_lt hlt
      rw [h1, e2] at e1
      rw [Option.some.inj e1]
    · have hz : y.tmps.size ≤ d := by rw [← hs]; exact Nat.le_of_not_lt hlt
      rw [Array.setIfInBounds_eq_of_size_le hz, Array.setIfInBounds_eq_of_size_le hz]

theorem seq_main {a0 : Act} {A : Nat → Act} {vs : Nat → Value} (hok : seqOk ops = true) (hA0 : A 0 = a0)
    (hst : ∀ i o, ops[i]? = some o → Step P ops S i o (A i) (A (i + 1))) (hv : ∀ i o, ops[i]? = some o → A (i + 1) = (A i).put o.dst (vs i))
    (hQ : ∀ L w, (∀ j, j < ops.size → L j) → S L w → Q .normal (A ops.size) w) :
    ∀ (fuel : Nat) (listed : Array Bool) (b : Act) (w : World), listed.size = ops.size → listed.toList.count false ≤ fuel →
      (∀ j oj, listed.getD j false = true → ops[j]? = some oj → ∀ e ∈ oj.after, Region.binds .any e = true → listed.getD e.on false = true) →
      Inv ops a0 vs (fun j => listed.getD j false = true) b → S (fun j => listed.getD j false = true) w → wpAny P .any ops Q fuel listed b w := by
  obtain ⟨hsel, hall⟩ := seqOk_spec hok
  have hpre : ∀ i, i ≤ ops.size → Inv ops a0 vs (fun j => j < i) (A i) := by
    intro i
    induction i with
    | zero => intro _; rw [hA0]; exact ⟨rfl, rfl, fun _ _ => rfl, fun j d hj => by omega⟩
    | succ i ih =>
      intro hi
      have ho : ops[i]? = some ops[i] := Array.getElem?_eq_getElem (by omega)
      rw [hv i _ ho]
      exact (ih (by omega)).put ho (fun j d hji hjd => ((hall i _ ho).2 j d hji hjd).1) fun j => by omega
  have hfin : ∀ (listed : Array Bool) (b : Act) (w : World), listed.size = ops.size → (∀ j, j < ops.size → listed.getD j false = true) →
      Inv ops a0 vs (fun j => listed.getD j false = true) b → S (fun j => listed.getD j false = true) w → Q .normal b w := by
    intro listed b w hz hl hI hS
    have hn := hpre ops.size (Nat.le_refl _)
    have e : b.tmps = (A ops.size).tmps := by
      apply Array.ext_getElem?
      intro d
      refine hI.agree hn d fun j hj => ⟨fun _ => ?_, fun h => hl j h⟩
      rcases Nat.lt_or_ge j ops.size with h1 | h1
      · exact h1
      · simp [dst, Array.getElem?_eq_none h1] at hj
    have e2 : b = A ops.size := by
      have hd : b.defers = (A ops.size).defers := by rw [hI.defers, hn.defers]
      generalize A ops.size = c at e hd
      cases b; cases c
      simp only at e hd
      rw [e, hd]
    rw [e2]; exact hQ _ w hl hS
  have hdone : ∀ (listed : Array Bool), listed.size = ops.size → Region.ready .any ops listed = [] → ∀ j, j < ops.size → listed.getD j false = true := by
    intro listed hz hr j
    induction j using Nat.strongRecOn with
    | ind j ih =>
      intro hj
      have hjz : j < listed.size := by omega
      cases h1 : listed[j] with
      | true => simp [hjz, h1]
      | false =>
        exfalso
        have ho : ops[j]? = some ops[j] := Array.getElem?_eq_getElem hj
        have hm : j ∈ Region.ready .any ops listed := mem_ready.2 ⟨by simp [hjz, h1], ops[j], ho, fun e he hb => by
            have hlt := (hall j _ ho).1 e he hb
            exact ih e.on hlt (by omega)⟩
        rw [hr] at hm; cases hm
  intro fuel
  induction fuel with
  | zero =>
    intro listed b w hz hc hcl hI hS
    have hl : ∀ j, j < ops.size → listed.getD j false = true := by
      intro j hj
      have hjz : j < listed.size := by omega
      have h0 : false ∉ listed.toList := List.count_eq_zero.1 (by omega)
      have h1 : listed[j] ∈ listed.toList := by rw [Array.mem_toList_iff]; exact Array.getElem_mem hjz
      have h2 : listed[j] ≠ false := fun e => h0 (e ▸ h1)
      simp [hjz]; simpa using h2
    refine ⟨?_, hfin listed b w hz hl hI hS⟩
    cases hr : Region.ready .any ops listed with
    | nil => rfl
    | cons x xs =>
      exfalso
      have hx : x ∈ Region.ready .any ops listed := by rw [hr]; simp
      obtain ⟨h0, o, ho, _⟩ := mem_ready.1 hx
      have hlt : x < ops.size := (Array.getElem?_eq_some_iff.1 ho).1
      have h1 := hl x hlt
      have hxz : x < listed.size := by omega
      simp [hxz] at h0 h1
      rw [h0] at h1; cases h1
  | succ fuel ih =>
    intro listed b w hz hc hcl hI hS
    refine ⟨fun hr => hfin listed b w hz (hdone listed hz hr) hI hS, fun i hi => ?_⟩
    obtain ⟨h0, o, ho, haf⟩ := mem_ready.1 hi
    have hlt : i < ops.size := (Array.getElem?_eq_some_iff.1 ho).1
    have hiz : i < listed.size := by omega
    have h0' : listed[i] = false := by simpa [hiz] using h0
    have hun : ¬ listed.getD i false = true := by simp [hiz, h0']
    have hp := hpre i (by omega)
    have hag : ∀ d ∈ o.looksAt ops, b.tmps[d]? = (A i).tmps[d]? := by
      intro d hd
      refine hI.agree hp d fun j hj => ?_
      by_cases hji : j = i
      · subst hji
        exact ⟨fun h => absurd h hun, fun h => by omega⟩
      · rcases ((hall i o ho).2 j d hji hj).2 hd with ⟨h1, e, he, hb, rfl⟩ | ⟨h1, oj, hoj, e, he, hb, rfl⟩
        · exact ⟨fun _ => h1, fun _ => haf e he hb⟩
        · exact ⟨fun h => absurd (hcl j oj h hoj e he hb) hun, fun h => by omega⟩
    have hiff : ∀ j, (listed.setIfInBounds i true).getD j false = true ↔ (listed.getD j false = true ∨ j = i) := by
      intro j
      by_cases hji : j = i
      · subst hji; simp [hiz]
      · rw [getD_set_ne false (Ne.symm hji)]; simp [hji]
    have hL : (fun j => (listed.setIfInBounds i true).getD j false = true) = (fun j => listed.getD j false = true ∨ j = i) := funext fun j => propext (hiff j)
    have hnext : ∀ w', S (fun j => listed.getD j false = true ∨ j = i) w' → wpAny P .any ops Q fuel (listed.setIfInBounds i true) (b.put o.dst (vs i)) w' := by
      intro w' hS'
      refine ih _ _ w' (by simpa using hz) ?_ ?_ (hI.put ho (fun j d hji hjd => ((hall i _ ho).2 j d hji hjd).1) hiff) (by rw [hL]; exact hS')
      · have hcs : (listed.setIfInBounds i true).toList.count false = listed.toList.count false - 1 := by
          rw [Array.toList_setIfInBounds, List.count_set (by simpa using hiz)]
          simp [h0']
        rw [hcs]; omega
      · intro j oj hj hoj e he hb
        rcases (hiff j).1 hj with h1 | rfl
        · exact (hiff _).2 (.inl (hcl j oj h1 hoj e he hb))
        · rw [ho] at hoj; cases hoj
          exact (hiff _).2 (.inl (haf e he hb))
    unfold wpOp
    simp only [ho]
    rw [wanted_agree hag]
    have hbe : Behind ops i (fun j => listed.getD j false = true) := behind_of hcl hun (fun o' ho' => by rw [ho] at ho'; cases ho'; exact haf)
    have hs1 := hst i o ho _ w (fun a'' w'' => a'' = A (i + 1) ∧ S (fun j => listed.getD j false = true ∨ j = i) w'') hbe hS (fun w' h => ⟨rfl, h⟩)
    have hvi := hv i o ho
    split
    · rename_i hw
      rw [if_pos hw] at hs1
      refine .inl (wp_move (eval_agree (fun cs q => hsel i o cs q ho) hag) (fun v w' hk => ?_) (fun d v w' hk => ?_) hs1)
      · have e := hk.1.trans hvi
        rw [put_same (by rw [hp.size, hI.size]) e]
        exact hnext w' hk.2
      · have e := congrArg Act.defers (hk.1.trans hvi)
        cases hod : o.dst <;> simp [Act.put, hod] at e
    · rename_i hw
      rw [if_neg hw] at hs1
      have e := hs1.1.trans hvi
      rw [put_same (by rw [hp.size, hI.size]) e]
      exact hnext w hs1.2

/-- What behind the operations is asked. -/
def SeqEnd (S : (Nat → Prop) → World → Prop) (n : Nat) (Q : Exit → Act → World → Prop) (a0 a : Act) : Prop := a.defers = a0.defers ∧ ∀ L w, (∀ j, j < n → L j) → S L w → Q .normal a w

theorem none_listed (n j : Nat) : ¬ (Array.replicate n false).getD j false = true := by
  rw [Array.getD_eq_getD_getElem?, Array.getElem?_replicate]
  split <;> simp

theorem wp_region_seq {id : Nat} {a : Act} {w : World} (S : (Nat → Prop) → World → Prop) (hm : P.follows .mixedOrders = true) (hok : seqOk ops = true) (hS : S (fun _ => False) w.drew)
    (h : SeqH P ops S (SeqEnd S ops.size Q a) 0 ops.toList a) : (Code.region id ops true).wp P Q a w := by
  obtain ⟨A, hA0, hst, hd, hQ⟩ := seq_acts ops.toList 0 a h
  have hst' : ∀ i o, ops[i]? = some o → Step P ops S i o (A i) (A (i + 1)) := fun i o ho => by have := hst i o (by simpa using ho); rwa [Nat.zero_add] at this
  have hz : ops.toList.length = ops.size := by simp
  rw [hz] at hd hQ
  -- a world of S ahead of each step, in the text's order
  have hall := fun i o ho => ((seqOk_spec hok).2 i o ho).1
  have hw : ∀ i, i ≤ ops.size → ∃ w', S (fun j => j < i) w' := by
    intro i
    induction i with
    | zero => intro _; exact ⟨w.drew, by rw [show (fun j : Nat => j < 0) = (fun _ => False) from funext fun j => propext ⟨fun h => by omega, fun h => h.elim⟩]; exact hS⟩
    | succ i ih =>
      intro hi
      obtain ⟨w', hw'⟩ := ih (by omega)
      have eL : (fun j : Nat => j < i ∨ j = i) = (fun j => j < i + 1) := funext fun j => propext (by omega)
      have h1 := hst' i _ (Array.getElem?_eq_getElem (by omega)) (fun j => j < i) w' (fun a'' w'' => S (fun j => j < i + 1) w'') (behind_text hall i) hw' (fun w'' h => by rw [← eL]; exact h)
      split at h1
      · rcases wp_ex h1 with ⟨v, w'', hk⟩ | ⟨d, v, w'', hk⟩
        · exact ⟨w'', hk⟩
        · exact ⟨w'', hk⟩
      · exact ⟨w', h1⟩
  -- each step is a put, or defers
  have hone : ∀ i o, ops[i]? = some o → (∃ v, A (i + 1) = (A i).put o.dst v) ∨ (A i).defers.length < (A (i + 1)).defers.length := by
    intro i o ho
    obtain ⟨w', hw'⟩ := hw i (by have := (Array.getElem?_eq_some_iff.1 ho).1; omega)
    have h1 := hst' i o ho (fun j => j < i) w' (fun a'' w'' => a'' = A (i + 1)) (behind_text hall i) hw' (fun w' _ => rfl)
    split at h1
    · rcases wp_ex h1 with ⟨v, w', hk⟩ | ⟨d, v, w', hk⟩
      · exact .inl ⟨v, hk.symm⟩
      · right
        rw [← hk]
        cases hod : o.dst <;> simp [Act.put]
    · exact .inl ⟨_, h1.symm⟩
  have hmono : ∀ i j, i ≤ j → j ≤ ops.size → (A i).defers.length ≤ (A j).defers.length := by
    intro i j hij
    induction j with
    | zero => intro _; have : i = 0 := by omega
              subst this; exact Nat.le_refl _
    | succ j ih =>
      intro hj
      rcases Nat.lt_or_ge i (j + 1) with h1 | h1
      · have h2 := ih (by omega) (by omega)
        rcases hone j _ (Array.getElem?_eq_getElem (by omega)) with ⟨v, e⟩ | h3
        · rw [e]
          have : ((A j).put ops[j].dst v).defers = (A j).defers := by cases ops[j].dst <;> rfl
          rw [this]; exact h2
        · omega
      · have : i = j + 1 := by omega
        subst this; exact Nat.le_refl _
  have hput : ∀ i, ∃ v, ∀ o, ops[i]? = some o → A (i + 1) = (A i).put o.dst v := by
    intro i
    cases ho : ops[i]? with
    | none => exact ⟨undef, fun o h => by cases h⟩
    | some o =>
      have hlt : i < ops.size := (Array.getElem?_eq_some_iff.1 ho).1
      rcases hone i o ho with ⟨v, e⟩ | h3
      · exact ⟨v, fun o' h => by cases h; exact e⟩
      · have h1 := hmono (i + 1) ops.size (by omega) (Nat.le_refl _)
        have h2 := hmono 0 i (by omega) (by omega)
        rw [hd] at h1
        rw [hA0] at h2
        omega
  obtain ⟨vs, hvs⟩ := Classical.axiomOfChoice hput
  refine wp_region_any hm (seq_main (S := S) (a0 := a) (A := A) (vs := vs) hok hA0 hst' (fun i o ho => hvs i o ho) hQ _ _ a w.drew (by simp) (by simp) ?_ ?_ (by rw [show (fun j => (Array.replicate ops.size false).getD j false = true) = (fun _ => False) from funext fun j => eq_false (none_listed _ _)]; exact hS))
  · intro j oj hj; exact absurd hj (none_listed _ _)
  · exact ⟨rfl, rfl, fun _ _ => rfl, fun j d hj => absurd hj (none_listed _ _)⟩

theorem SeqH.op {R : Act → Prop} {i : Nat} {o : Oper} {rest : List Oper} {a a' : Act}
    (h : ∀ (L : Nat → Prop) (w : World) (K : Act → World → Prop), Shut (Behind ops i L) → S L w → Shut (∀ w', S (fun j => L j ∨ j = i) w' → K a' w') → if Region.wanted o (yielded ops a.tmps) = true then Oper.wp P o a w K NoQ else K (a.put o.dst undef) w)
    (hs : SeqH P ops S R (i + 1) rest a') : SeqH P ops S R i (o :: rest) a := ⟨a', h, hs⟩
theorem SeqH.done {Q : Exit → Act → World → Prop} {n i : Nat} {a0 a : Act} (hd : a.defers = a0.defers) (h : ∀ L w, (∀ j, j < n → L j) → S L w → Q .normal a w) : SeqH P ops S (SeqEnd S n Q a0) i [] a := ⟨hd, h⟩

/-! Where nothing is stored: the condition does not ask which operations are done. -/
theorem wp_region_text {id : Nat} {a : Act} {w : World} (S : World → Prop) (hm : P.follows .mixedOrders = true) (hok : seqOk ops = true) (hS : S w.drew)
    (h : SeqH P ops (fun _ => S) (SeqEnd (fun _ => S) ops.size Q a) 0 ops.toList a) : (Code.region id ops true).wp P Q a w :=
  wp_region_seq (fun _ => S) hm hok hS h
theorem SeqH.one {S : World → Prop} {R : Act → Prop} {i : Nat} {o : Oper} {rest : List Oper} {a a' : Act}
    (h : ∀ (w : World) (K : Act → World → Prop), S w → Shut (∀ w', S w' → K a' w') → if Region.wanted o (yielded ops a.tmps) = true then Oper.wp P o a w K NoQ else K (a.put o.dst undef) w)
    (hs : SeqH P ops (fun _ => S) R (i + 1) rest a') : SeqH P ops (fun _ => S) R i (o :: rest) a := ⟨a', fun _ w K _ => h w K, hs⟩
theorem SeqH.end' {S : World → Prop} {Q : Exit → Act → World → Prop} {n i : Nat} {a0 a : Act} (hd : a.defers = a0.defers) (h : ∀ w, S w → Q .normal a w) : SeqH P ops (fun _ => S) (SeqEnd (fun _ => S) n Q a0) i [] a := ⟨hd, fun _ w _ => h w⟩
end
end Go.Proofs.Ytngominkeammiaa.Regn
