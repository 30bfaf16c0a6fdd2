/- A region that draws its order and ends in operations that come last in every order (an append, a store, the results): the first k as in Regn, the others one behind the other. My own. -/
import Derived.Test.YtngominkeammiaaRegn
namespace Go.Proofs.Ytngominkeammiaa.Regn
open Go
set_option linter.unusedVariables false
section
variable {P : Program} {ops : Array Oper} {Q : Exit → Act → World → Prop} {S : (Nat → Prop) → World → Prop}

/-- The operations from number k on come last, in their order. -/
def tailOk (ops : Array Oper) (k : Nat) : Bool :=
  decide (k ≤ ops.size) && (List.range ops.size).all fun i => decide (i < k) || (List.range i).all fun j => pre ops ops.size i j
theorem tailOk_spec {k : Nat} (h : tailOk ops k = true) : k ≤ ops.size ∧ ∀ i, k ≤ i → i < ops.size → ∀ j, j < i → pre ops ops.size i j = true := by
  unfold tailOk at h
  rw [Bool.and_eq_true] at h
  refine ⟨of_decide_eq_true h.1, fun i hk hi j hj => ?_⟩
  have h1 := List.all_eq_true.1 h.2 i (List.mem_range.2 hi)
  rw [Bool.or_eq_true, decide_eq_true_eq] at h1
  exact List.all_eq_true.1 (h1.resolve_left (by omega)) j (List.mem_range.2 hj)

theorem tail_any {k : Nat} (hok : seqOk ops = true) (htl : tailOk ops k = true) :
    ∀ (fuel m : Nat) (listed : Array Bool) (a : Act) (w : World), k ≤ m → m ≤ ops.size → ops.size ≤ m + fuel → listed.size = ops.size → (∀ j, listed.getD j false = true ↔ j < m) →
      wpList P ops Q (ops.toList.drop m) a w → wpAny P .any ops Q fuel listed a w := by
  obtain ⟨hsel, hall⟩ := seqOk_spec hok
  obtain ⟨hkn, hpre⟩ := tailOk_spec htl
  have hrdy : ∀ (m : Nat) (listed : Array Bool), k ≤ m → m ≤ ops.size → listed.size = ops.size → (∀ j, listed.getD j false = true ↔ j < m) → ∀ i ∈ Region.ready .any ops listed, i = m ∧ m < ops.size := by
    intro m listed hk hm hz hl i hi
    obtain ⟨h0, o, ho, haf⟩ := mem_ready.1 hi
    have hlt : i < ops.size := (Array.getElem?_eq_some_iff.1 ho).1
    have hiz : i < listed.size := by omega
    have h0' : listed[i] = false := by simpa [hiz] using h0
    have hun : ¬ i < m := fun h => by have := (hl i).2 h; simp [hiz, h0'] at this
    rcases Nat.lt_or_ge m i with hmi | hmi
    · exfalso
      have hcl : ∀ j oj, listed.getD j false = true → ops[j]? = some oj → ∀ e ∈ oj.after, Region.binds .any e = true → listed.getD e.on false = true := fun j oj hj hoj e he hb =>
        (hl _).2 (by have := (hall j oj hoj).1 e he hb; have := (hl j).1 hj; omega)
      have := pre_spec hcl _ i m (hpre i (by omega) hlt m hmi) fun o' ho' e he hb => by rw [ho] at ho'; cases ho'; exact haf e he hb
      have := (hl m).1 this; omega
    · exact ⟨by omega, by omega⟩
  have hmore : ∀ (m : Nat) (listed : Array Bool), k ≤ m → listed.size = ops.size → (∀ j, listed.getD j false = true ↔ j < m) → m < ops.size → m ∈ Region.ready .any ops listed := by
    intro m listed hk hz hl hm
    have hmz : m < listed.size := by omega
    have h0 : ¬ listed.getD m false = true := fun h => by have := (hl m).1 h; omega
    exact mem_ready.2 ⟨by simp [hmz] at h0 ⊢; exact h0, ops[m], Array.getElem?_eq_getElem hm, fun e he hb => (hl _).2 ((hall m _ (Array.getElem?_eq_getElem hm)).1 e he hb)⟩
  intro fuel
  induction fuel with
  | zero =>
    intro m listed a w hk hm hf hz hl ht
    have e : m = ops.size := by omega
    rw [List.drop_eq_nil_of_le (by simp; omega)] at ht
    refine ⟨?_, ht⟩
    cases hr : Region.ready .any ops listed with
    | nil => rfl
    | cons x xs =>
      have := (hrdy m listed hk hm hz hl x (by rw [hr]; simp)).2
      omega
  | succ fuel ih =>
    intro m listed a w hk hm hf hz hl ht
    refine ⟨fun hr => ?_, fun i hi => ?_⟩
    · have e : ¬ m < ops.size := fun h => by have := hmore m listed hk hz hl h; rw [hr] at this; cases this
      rw [List.drop_eq_nil_of_le (by simp; omega)] at ht
      exact ht
    · obtain ⟨rfl, hlt⟩ := hrdy m listed hk hm hz hl i hi
      have ho : ops[i]? = some ops[i] := Array.getElem?_eq_getElem hlt
      have hd : ops.toList.drop i = ops[i] :: ops.toList.drop (i + 1) := by
        rw [List.drop_eq_getElem_cons (by simpa using hlt)]; simp
      rw [hd] at ht
      have hiz : i < listed.size := by omega
      have hl' : ∀ j, (listed.setIfInBounds i true).getD j false = true ↔ j < i + 1 := by
        intro j
        by_cases hji : j = i
        · subst hji; simp [hiz]
        · rw [getD_set_ne false (Ne.symm hji), hl j]; omega
      have hnext : ∀ a' w', wpList P ops Q (ops.toList.drop (i + 1)) a' w' → wpAny P .any ops Q fuel (listed.setIfInBounds i true) a' w' := fun a' w' h =>
        ih (i + 1) _ a' w' (by omega) (by omega) (by omega) (by simpa using hz) hl' h
      unfold wpOp
      simp only [ho]
      unfold wpList at ht
      split
      · rename_i hw
        simp only [hw, if_true] at ht
        exact ht.imp (Oper.wp_mono hnext) id
      · rename_i hw
        simp only [hw] at ht
        exact hnext _ _ ht

theorem seq_tail {k : Nat} {a0 : Act} {A : Nat → Act} {vs : Nat → Value} (hok : seqOk ops = true) (htl : tailOk ops k = true) (hA0 : A 0 = a0)
    (hst : ∀ i o, i < k → ops[i]? = some o → Step P ops S i o (A i) (A (i + 1))) (hv : ∀ i o, i < k → ops[i]? = some o → A (i + 1) = (A i).put o.dst (vs i))
    (hQ : ∀ L w, (∀ j, j < k → L j) → S L w → wpList P ops Q (ops.toList.drop k) (A k) w) :
    ∀ (fuel : Nat) (listed : Array Bool) (b : Act) (w : World), listed.size = ops.size → listed.toList.count false ≤ fuel → (∀ j, listed.getD j false = true → j < k) →
      (∀ j oj, listed.getD j false = true → ops[j]? = some oj → ∀ e ∈ oj.after, Region.binds .any e = true → listed.getD e.on false = true) →
      Inv ops a0 vs (fun j => listed.getD j false = true) b → S (fun j => listed.getD j false = true) w → wpAny P .any ops Q fuel listed b w := by
  obtain ⟨hsel, hall⟩ := seqOk_spec hok
  obtain ⟨hkn, hprek⟩ := tailOk_spec htl
  have hpre : ∀ i, i ≤ k → Inv ops a0 vs (fun j => j < i) (A i) := by
    intro i
    induction i with
    | zero => intro _; rw [hA0]; exact ⟨rfl, rfl, fun _ _ => rfl, fun j d hj => by omega⟩
    | succ i ih =>
      intro hi
      have ho : ops[i]? = some ops[i] := Array.getElem?_eq_getElem (by omega)
      rw [hv i _ (by omega) ho]
      exact (ih (by omega)).put ho (fun j d hji hjd => ((hall i _ ho).2 j d hji hjd).1) fun j => by omega
  -- where the first k are done, the tail
  have hfin : ∀ (fuel : Nat) (listed : Array Bool) (b : Act) (w : World), listed.size = ops.size → listed.toList.count false ≤ fuel → (∀ j, listed.getD j false = true ↔ j < k) →
      Inv ops a0 vs (fun j => listed.getD j false = true) b → S (fun j => listed.getD j false = true) w → wpAny P .any ops Q fuel listed b w := by
    intro fuel listed b w hz hc hl hI hS
    have hn := hpre k (Nat.le_refl _)
    have e : b.tmps = (A k).tmps := by
      apply Array.ext_getElem?
      intro d
      exact hI.agree hn d fun j hj => hl j
    have e2 : b = A k := by
      have hd : b.defers = (A k).defers := by rw [hI.defers, hn.defers]
      generalize A k = c at e hd
      cases b; cases c
      simp only at e hd
      rw [e, hd]
    rw [e2]
    refine tail_any hok htl fuel k listed _ w (Nat.le_refl _) hkn ?_ hz hl (hQ _ w (fun j hj => (hl j).2 hj) hS)
    -- the count of those not listed is size - k
    have hsplit : listed.toList = List.replicate k true ++ List.replicate (ops.size - k) false := by
      apply List.ext_getElem?
      intro j
      by_cases hj : j < k
      · rw [List.getElem?_append_left (by simpa using hj), List.getElem?_replicate, if_pos hj]
        have h1 := (hl j).2 hj
        have hjz : j < listed.size := by omega
        simp [hjz] at h1
        rw [Array.getElem?_toList, Array.getElem?_eq_getElem hjz, h1]
      · rw [List.getElem?_append_right (by simpa using hj), List.length_replicate, List.getElem?_replicate]
        by_cases hj2 : j < ops.size
        · rw [if_pos (by omega)]
          have hjz : j < listed.size := by omega
          have h1 : ¬ listed.getD j false = true := fun h => hj ((hl j).1 h)
          simp [hjz] at h1
          rw [Array.getElem?_toList, Array.getElem?_eq_getElem hjz, h1]
        · rw [if_neg (by omega), Array.getElem?_toList, Array.getElem?_eq_none (by omega)]
    rw [hsplit, List.count_append] at hc
    simp [List.count_replicate] at hc
    omega
  intro fuel
  induction fuel with
  | zero =>
    intro listed b w hz hc hlk hcl hI hS
    refine hfin 0 listed b w hz hc (fun j => ⟨hlk j, fun hj => ?_⟩) hI hS
    have hjz : j < listed.size := by omega
    have h0 : false ∉ listed.toList := List.count_eq_zero.1 (by omega)
    have h1 : listed[j] ∈ listed.toList := by rw [Array.mem_toList_iff]; exact Array.getElem_mem hjz
    have h2 : listed[j] ≠ false := fun e => h0 (e ▸ h1)
    simp [hjz]; simpa using h2
  | succ fuel ih =>
    intro listed b w hz hc hlk hcl hI hS
    by_cases hdone : ∀ j, j < k → listed.getD j false = true
    · exact hfin (fuel + 1) listed b w hz hc (fun j => ⟨hlk j, hdone j⟩) hI hS
    · have hik : ∀ i ∈ Region.ready .any ops listed, i < k := by
        intro i hi
        obtain ⟨h0, o, ho, haf⟩ := mem_ready.1 hi
        have hlt : i < ops.size := (Array.getElem?_eq_some_iff.1 ho).1
        rcases Nat.lt_or_ge i k with h1 | h1
        · exact h1
        · exfalso
          refine hdone fun j hj => pre_spec hcl _ i j (hprek i h1 hlt j (by omega)) fun o' ho' e he hb => by rw [ho] at ho'; cases ho'; exact haf e he hb
      refine ⟨fun hr => ?_, fun i hi => ?_⟩
      · exfalso
        apply hdone
        intro j
        induction j using Nat.strongRecOn with
        | ind j ihj =>
          intro hj
          have hjz : j < listed.size := by omega
          cases h1 : listed[j] with
          | true => simp [hjz, h1]
          | false =>
            exfalso
            have ho : ops[j]? = some ops[j] := Array.getElem?_eq_getElem (by omega)
            have hm : j ∈ Region.ready .any ops listed := mem_ready.2 ⟨by simp [hjz, h1], ops[j], ho, fun e he hb => by
                have hlt := (hall j _ ho).1 e he hb
                exact ihj e.on hlt (by omega)⟩
            rw [hr] at hm; cases hm
      · have hki := hik i hi
        obtain ⟨h0, o, ho, haf⟩ := mem_ready.1 hi
        have hlt : i < ops.size := (Array.getElem?_eq_some_iff.1 ho).1
        have hiz : i < listed.size := by omega
        have h0' : listed[i] = false := by simpa [hiz] using h0
        have hun : ¬ listed.getD i false = true := by simp [hiz, h0']
        have hp := hpre i (by omega)
        have hag : ∀ d ∈ o.looksAt ops, b.tmps[d]? = (A i).tmps[d]? := by
          intro d hd
          refine hI.agree hp d fun j hj => ?_
          by_cases hji : j = i
          · subst hji
            exact ⟨fun h => absurd h hun, fun h => by omega⟩
          · rcases ((hall i o ho).2 j d hji hj).2 hd with ⟨h1, e, he, hb, rfl⟩ | ⟨h1, oj, hoj, e, he, hb, rfl⟩
            · exact ⟨fun _ => h1, fun _ => haf e he hb⟩
            · exact ⟨fun h => absurd (hcl j oj h hoj e he hb) hun, fun h => by omega⟩
        have hiff : ∀ j, (listed.setIfInBounds i true).getD j false = true ↔ (listed.getD j false = true ∨ j = i) := by
          intro j
          by_cases hji : j = i
          · subst hji; simp [hiz]
          · rw [getD_set_ne false (Ne.symm hji)]; simp [hji]
        have hL : (fun j => (listed.setIfInBounds i true).getD j false = true) = (fun j => listed.getD j false = true ∨ j = i) := funext fun j => propext (hiff j)
        have hnext : ∀ w', S (fun j => listed.getD j false = true ∨ j = i) w' → wpAny P .any ops Q fuel (listed.setIfInBounds i true) (b.put o.dst (vs i)) w' := by
          intro w' hS'
          refine ih _ _ w' (by simpa using hz) ?_ ?_ ?_ (hI.put ho (fun j d hji hjd => ((hall i _ ho).2 j d hji hjd).1) hiff) (by rw [hL]; exact hS')
          · have hcs : (listed.setIfInBounds i true).toList.count false = listed.toList.count false - 1 := by
              rw [Array.toList_setIfInBounds, List.count_set (by simpa using hiz)]
              simp [h0']
            rw [hcs]; omega
          · intro j hj
            rcases (hiff j).1 hj with h1 | rfl
            · exact hlk j h1
            · exact hki
          · intro j oj hj hoj e he hb
            rcases (hiff j).1 hj with h1 | rfl
            · exact (hiff _).2 (.inl (hcl j oj h1 hoj e he hb))
            · rw [ho] at hoj; cases hoj
              exact (hiff _).2 (.inl (haf e he hb))
        unfold wpOp
        simp only [ho]
        rw [wanted_agree hag]
        have hbe : Behind ops i (fun j => listed.getD j false = true) := behind_of hcl hun (fun o' ho' => by rw [ho] at ho'; cases ho'; exact haf)
        have hs1 := hst i o hki ho _ w (fun a'' w'' => a'' = A (i + 1) ∧ S (fun j => listed.getD j false = true ∨ j = i) w'') hbe hS (fun w' h => ⟨rfl, h⟩)
        have hvi := hv i o hki ho
        split
        · rename_i hw
          rw [if_pos hw] at hs1
          refine .inl (wp_move (eval_agree (fun cs q => hsel i o cs q ho) hag) (fun v w' hk => ?_) (fun d v w' hk => ?_) hs1)
          · have e := hk.1.trans hvi
            rw [put_same (by rw [hp.size, hI.size]) e]
            exact hnext w' hk.2
          · have e := congrArg Act.defers (hk.1.trans hvi)
            cases hod : o.dst <;> simp [Act.put, hod] at e
        · rename_i hw
          rw [if_neg hw] at hs1
          have e := hs1.1.trans hvi
          rw [put_same (by rw [hp.size, hI.size]) e]
          exact hnext w hs1.2

/-- What behind the first k is asked. -/
def TailEnd (P : Program) (ops : Array Oper) (S : (Nat → Prop) → World → Prop) (k : Nat) (Q : Exit → Act → World → Prop) (a0 a : Act) : Prop :=
  a.defers = a0.defers ∧ ∀ L w, (∀ j, j < k → L j) → S L w → wpList P ops Q (ops.toList.drop k) a w

theorem wp_region_tail {id : Nat} {a : Act} {w : World} (k : Nat) (S : (Nat → Prop) → World → Prop) (hm : P.follows .mixedOrders = true) (hok : seqOk ops = true) (htl : tailOk ops k = true) (hS : S (fun _ => False) w.drew)
    (h : SeqH P ops S (TailEnd P ops S k Q a) 0 (ops.toList.take k) a) : (Code.region id ops true).wp P Q a w := by
  obtain ⟨hkn, _⟩ := tailOk_spec htl
  obtain ⟨A, hA0, hst, hd, hQ⟩ := seq_acts (ops.toList.take k) 0 a h
  have hz : (ops.toList.take k).length = k := by simp; omega
  rw [hz] at hd hQ
  have hst' : ∀ i o, i < k → ops[i]? = some o → Step P ops S i o (A i) (A (i + 1)) := fun i o hi ho => by
    have := hst i o (by rw [List.getElem?_take, if_pos hi]; simpa using ho); rwa [Nat.zero_add] at this
  -- a world of S ahead of each step, in the text's order
  have hall := fun i o ho => ((seqOk_spec hok).2 i o ho).1
  have hw : ∀ i, i ≤ k → ∃ w', S (fun j => j < i) w' := by
    intro i
    induction i with
    | zero => intro _; exact ⟨w.drew, by rw [show (fun j : Nat => j < 0) = (fun _ => False) from funext fun j => propext ⟨fun h => by omega, fun h => h.elim⟩]; exact hS⟩
    | succ i ih =>
      intro hi
      obtain ⟨w', hw'⟩ := ih (by omega)
      have eL : (fun j : Nat => j < i ∨ j = i) = (fun j => j < i + 1) := funext fun j => propext (by omega)
      have h1 := hst' i _ (by omega) (Array.getElem?_eq_getElem (by omega)) (fun j => j < i) w' (fun a'' w'' => S (fun j => j < i + 1) w'') (behind_text hall i) hw' (fun w'' h => by rw [← eL]; exact h)
      split at h1
      · rcases wp_ex h1 with ⟨v, w'', hk⟩ | ⟨d, v, w'', hk⟩
        · exact ⟨w'', hk⟩
        · exact ⟨w'', hk⟩
      · exact ⟨w', h1⟩
  have hone : ∀ i o, i < k → ops[i]? = some o → (∃ v, A (i + 1) = (A i).put o.dst v) ∨ (A i).defers.length < (A (i + 1)).defers.length := by
    intro i o hi ho
    obtain ⟨w', hw'⟩ := hw i (by omega)
    have h1 := hst' i o hi ho (fun j => j < i) w' (fun a'' w'' => a'' = A (i + 1)) (behind_text hall i) hw' (fun w' _ => rfl)
    split at h1
    · rcases wp_ex h1 with ⟨v, w', hk⟩ | ⟨d, v, w', hk⟩
      · exact .inl ⟨v, hk.symm⟩
      · right
        rw [← hk]
        cases hod : o.dst <;> simp [Act.put]
    · exact .inl ⟨_, h1.symm⟩
  have hmono : ∀ i j, i ≤ j → j ≤ k → (A i).defers.length ≤ (A j).defers.length := by
    intro i j hij
    induction j with
    | zero => intro _; have : i = 0 := by omega
              subst this; exact Nat.le_refl _
    | succ j ih =>
      intro hj
      rcases Nat.lt_or_ge i (j + 1) with h1 | h1
      · have h2 := ih (by omega) (by omega)
        rcases hone j _ (by omega) (Array.getElem?_eq_getElem (by omega)) with ⟨v, e⟩ | h3
        · rw [e]
          have : ((A j).put ops[j].dst v).defers = (A j).defers := by cases ops[j].dst <;> rfl
          rw [this]; exact h2
        · omega
      · have : i = j + 1 := by omega
        subst this; exact Nat.le_refl _
  have hput : ∀ i, ∃ v, ∀ o, i < k → ops[i]? = some o → A (i + 1) = (A i).put o.dst v := by
    intro i
    by_cases hik : i < k
    · have ho : ops[i]? = some ops[i] := Array.getElem?_eq_getElem (by omega)
      rcases hone i _ hik ho with ⟨v, e⟩ | h3
      · exact ⟨v, fun o' _ h => by rw [ho] at h; cases h; exact e⟩
      · have h1 := hmono (i + 1) k (by omega) (Nat.le_refl _)
        have h2 := hmono 0 i (by omega) (by omega)
        rw [hd] at h1
        rw [hA0] at h2
        omega
    · exact ⟨undef, fun o h => absurd h hik⟩
  obtain ⟨vs, hvs⟩ := Classical.axiomOfChoice hput
  refine wp_region_any hm (seq_tail (S := S) (a0 := a) (A := A) (vs := vs) hok htl hA0 hst' (fun i o hi ho => hvs i o hi ho) hQ _ _ a w.drew (by simp) (by simp) (fun j hj => absurd hj (none_listed _ _)) ?_ ?_ (by rw [show (fun j => (Array.replicate ops.size false).getD j false = true) = (fun _ => False) from funext fun j => eq_false (none_listed _ _)]; exact hS))
  · intro j oj hj; exact absurd hj (none_listed _ _)
  · exact ⟨rfl, rfl, fun _ _ => rfl, fun j d hj => absurd hj (none_listed _ _)⟩

theorem wp_region_last {id : Nat} {a : Act} {w : World} (k : Nat) (S : World → Prop) (hm : P.follows .mixedOrders = true) (hok : seqOk ops = true) (htl : tailOk ops k = true) (hS : S w.drew)
    (h : SeqH P ops (fun _ => S) (TailEnd P ops (fun _ => S) k Q a) 0 (ops.toList.take k) a) : (Code.region id ops true).wp P Q a w := wp_region_tail k (fun _ => S) hm hok htl hS h
theorem SeqH.rest' {k i : Nat} {a0 a : Act} (hd : a.defers = a0.defers) (h : ∀ L w, (∀ j, j < k → L j) → S L w → wpList P ops Q (ops.toList.drop k) a w) : SeqH P ops S (TailEnd P ops S k Q a0) i [] a := ⟨hd, h⟩
/-- The world is V till p, then V'. -/
def Pin (p : Prop) (V V' w : World) : Prop := (p → w = V') ∧ (¬ p → w = V)
theorem Pin.two {p : Prop} {V V' w : World} (h : Pin p V V' w) : V = w ∨ V' = w := by
  by_cases hp : p
  · exact .inr (h.1 hp).symm
  · exact .inl (h.2 hp).symm
theorem Pin.start (V V' : World) : Pin False V V' V := ⟨fun h => h.elim, fun _ => rfl⟩
theorem Pin.skip {L : Nat → Prop} {i j : Nat} {V V' w : World} (h : Pin (L i) V V' w) (hne : i ≠ j) : Pin (L i ∨ i = j) V V' w :=
  ⟨fun k => h.1 (k.resolve_right hne), fun k => h.2 fun l => k (.inl l)⟩
theorem Pin.put {L : Nat → Prop} {i : Nat} {V V' : World} : Pin (L i ∨ i = i) V V' V' := ⟨fun _ => rfl, fun k => absurd (.inr rfl) k⟩
theorem SeqH.rest {S : World → Prop} {k i : Nat} {a0 a : Act} (hd : a.defers = a0.defers) (h : ∀ w, S w → wpList P ops Q (ops.toList.drop k) a w) : SeqH P ops (fun _ => S) (TailEnd P ops (fun _ => S) k Q a0) i [] a := ⟨hd, fun _ w _ => h w⟩
end
end Go.Proofs.Ytngominkeammiaa.Regn
