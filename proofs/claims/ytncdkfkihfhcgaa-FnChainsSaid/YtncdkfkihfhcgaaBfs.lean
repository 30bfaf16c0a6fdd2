/- Plain: a search in breadth finds the way that is built greedily from the distances. -/
import Derived.Test.YtncdkfkihfhcgaaMem
namespace Go.Proofs.Ytncdkfkihfhcgaa.Bfs
set_option linter.unusedVariables false
/-- s: the numbers of steps to 'to' (below 0: there is no way). -/
structure Steps (n : Nat) (adj : Nat → Nat → Bool) (to : Nat) (s : Nat → Int) : Prop where
  z : s to = 0
  z' : ∀ j, j < n → s j = 0 → j = to
  b : ∀ x y, x < n → y < n → adj x y = true → 0 ≤ s y → s y < n → 0 ≤ s x ∧ s x ≤ s y + 1
  c : ∀ x, x < n → ∀ m : Nat, s x = m + 1 → ∃ y, y < n ∧ adj x y = true ∧ s y = m
def nxt (n : Nat) (adj : Nat → Nat → Bool) (s : Nat → Int) (v m : Nat) : Nat := ((List.range n).filter fun u => adj v u && decide (s u = m)).headD 0
def grd (n : Nat) (adj : Nat → Nat → Bool) (s : Nat → Int) : Nat → Nat → List Nat
  | v, 0 => [v]
  | v, m + 1 => v :: grd n adj s (nxt n adj s v m) m
def kids (n : Nat) (adj : Nat → Nat → Bool) (D : List Nat) (v : Nat) : List Nat := (List.range n).filter fun u => adj v u && decide (u ∉ D)
/-- a way: what is ahead of its last one, and that. -/
abbrev Way := List Nat × Nat
def ok1 (s : Nat → Int) (d : Nat) (r : Way) : Prop := s r.2 < 0 ∨ (d : Int) ≤ s r.2 + r.1.length
def ok2 (s : Nat → Int) (d : Nat) (r : Way) : Prop := s r.2 < 0 ∨ (d : Int) < s r.2 + r.1.length
structure At (n : Nat) (adj : Nat → Nat → Bool) (s : Nat → Int) (d : Nat) (G : List Nat) (X : List Way) (pre : List Nat) (v : Nat) (Y : List Way) (D : List Nat) : Prop where
  way : pre ++ grd n adj s v (d - pre.length) = G
  len : pre.length ≤ d
  val : s v = (d : Int) - pre.length
  lt : v < n
  before : ∀ r ∈ X, r.2 < n ∧ r.1.length ≤ pre.length ∧ ok1 s d r ∧ (r.1.length = pre.length → ok2 s d r)
  behind : ∀ r ∈ Y, r.2 < n ∧ r.1.length ≤ pre.length + 1 ∧ ok1 s d r ∧ (r.1.length = pre.length + 1 → ok2 s d r)
  seen : ∀ u ∈ D, s u < 0 ∨ (d : Int) - pre.length ≤ s u
def Inv (n : Nat) (adj : Nat → Nat → Bool) (s : Nat → Int) (d : Nat) (G : List Nat) (Q : List Way) (D : List Nat) : Prop := ∃ X pre v Y, Q = X ++ (pre, v) :: Y ∧ At n adj s d G X pre v Y D
variable {n : Nat} {adj : Nat → Nat → Bool} {to : Nat} {s : Nat → Int} {d : Nat} {G : List Nat}
theorem start {f : Nat} (hf : f < n) (hd : s f = d) : Inv n adj s d (grd n adj s f d) [([], f)] [f] :=
  ⟨[], [], f, [], rfl, rfl, Nat.zero_le _, by simp [hd], hf, fun r h => by simp at h, fun r h => by simp at h, fun u h => by simp at h; subst h; right; simp [hd]⟩
theorem not_nil {D : List Nat} (h : Inv n adj s d G [] D) : False := by
  obtain ⟨X, pre, v, Y, hQ, _⟩ := h
  cases X <;> simp at hQ
theorem lt_of {r : Way} {Q : List Way} {D : List Nat} (h : Inv n adj s d G (r :: Q) D) : r.2 < n := by
  obtain ⟨X, pre, v, Y, hQ, h⟩ := h
  cases X with
  | nil => injection hQ with h1 h2; subst h1; exact h.lt
  | cons x X => injection hQ with h1 h2; subst h1; exact (h.before _ (List.mem_cons_self ..)).1
/-- the way that ends there is the greedy one. -/
theorem done (H : Steps n adj to s) {q : List Nat} {Q : List Way} {D : List Nat} (h : Inv n adj s d G ((q, to) :: Q) D) : q ++ [to] = G := by
  obtain ⟨X, pre, v, Y, hQ, h⟩ := h
  cases X with
  | nil =>
    injection hQ with h1 h2
    injection h1 with h1 h3
    subst h1; subst h3
    have e := h.val; rw [H.z] at e
    have e2 : d - q.length = 0 := by omega
    have := h.way; rw [e2] at this; exact this
  | cons x X =>
    injection hQ with h1 h2
    subst h1
    obtain ⟨_, hl, o1, o2⟩ := h.before _ (List.mem_cons_self ..)
    have hl2 := h.len
    have o1' : s to < 0 ∨ (d : Int) ≤ s to + q.length := o1
    have hl' : q.length ≤ pre.length := hl
    rw [H.z] at o1'
    have o2' : s to < 0 ∨ (d : Int) < s to + q.length := o2 (by show q.length = pre.length; omega)
    rw [H.z] at o2'
    omega
theorem kid (H : Steps n adj to s) (hdn : d ≤ n) {q : List Nat} {w u : Nat} (hw : w < n) (hu : u < n) (ha : adj w u = true) : (ok1 s d (q, w) → ok1 s d (q ++ [w], u)) ∧ (ok2 s d (q, w) → ok2 s d (q ++ [w], u)) := by
  have key : s u < 0 ∨ (n : Int) ≤ s u ∨ (0 ≤ s w ∧ s w ≤ s u + 1) := by
    by_cases h : 0 ≤ s u
    · by_cases h2 : s u < n
      · exact .inr (.inr (H.b w u hw hu ha h h2))
      · exact .inr (.inl (by omega))
    · exact .inl (by omega)
  have e : ((q ++ [w]).length : Int) = q.length + 1 := by simp
  constructor
  · intro h
    have h' : s w < 0 ∨ (d : Int) ≤ s w + q.length := h
    show s u < 0 ∨ (d : Int) ≤ s u + (q ++ [w]).length
    rw [e]; omega
  · intro h
    have h' : s w < 0 ∨ (d : Int) < s w + q.length := h
    show s u < 0 ∨ (d : Int) < s u + (q ++ [w]).length
    rw [e]; omega
theorem mem_kids {D : List Nat} {v u : Nat} : u ∈ kids n adj D v ↔ u < n ∧ adj v u = true ∧ u ∉ D := by
  unfold kids; rw [List.mem_filter, List.mem_range]; simp
/-- the first one of a filtered list parts a list that is filtered less. -/
theorem first_in {l : List Nat} {p q : Nat → Bool} (hpq : ∀ u ∈ l, q u = true → p u = true) (hne : ∃ u ∈ l, q u = true) :
    ∃ A B, l.filter p = A ++ (l.filter q).headD 0 :: B ∧ (∀ u ∈ A, q u = false) ∧ q ((l.filter q).headD 0) = true ∧ (l.filter q).headD 0 ∈ l := by
  induction l with
  | nil => obtain ⟨u, h, _⟩ := hne; cases h
  | cons x l ih =>
    cases hq : q x
    · obtain ⟨A, B, h1, h2, h3, h4⟩ := ih (fun u hu => hpq u (List.mem_cons_of_mem _ hu)) (by
        obtain ⟨u, hu, h⟩ := hne
        rcases List.mem_cons.1 hu with rfl | hu
        · rw [hq] at h; cases h
        · exact ⟨u, hu, h⟩)
      have fq : (x :: l).filter q = l.filter q := List.filter_cons_of_neg (by rw [hq]; decide)
      rw [fq]
      cases hp : p x
      · have fp : (x :: l).filter p = l.filter p := List.filter_cons_of_neg (by rw [hp]; decide)
        rw [fp]
        exact ⟨A, B, h1, h2, h3, List.mem_cons_of_mem _ h4⟩
      · have fp : (x :: l).filter p = x :: l.filter p := List.filter_cons_of_pos hp
        rw [fp]
        exact ⟨x :: A, B, by rw [h1]; rfl, fun u hu => by rcases List.mem_cons.1 hu with rfl | hu; exact hq; exact h2 u hu, h3, List.mem_cons_of_mem _ h4⟩
    · have fq : (x :: l).filter q = x :: l.filter q := List.filter_cons_of_pos hq
      have fp : (x :: l).filter p = x :: l.filter p := List.filter_cons_of_pos (hpq x (List.mem_cons_self ..) hq)
      rw [fq, fp]
      exact ⟨[], _, rfl, (fun u hu => by cases hu), hq, List.mem_cons_self ..⟩
/-- one way is taken, the ways to its unseen neighbors are put behind. -/
theorem step (H : Steps n adj to s) (hdn : d ≤ n) {q : List Nat} {w : Nat} {Q : List Way} {D : List Nat} (h : Inv n adj s d G ((q, w) :: Q) D) (hto : w ≠ to) :
    Inv n adj s d G (Q ++ (kids n adj D w).map fun u => (q ++ [w], u)) (D ++ kids n adj D w) := by
  have hw := lt_of h
  obtain ⟨X, pre, v, Y, hQ, h⟩ := h
  cases X with
  | nil =>
    injection hQ with h1 h2
    injection h1 with h1 h3
    subst h1; subst h3; subst h2
    have hv : s w ≠ 0 := fun e => hto (H.z' w hw e)
    have hl := h.len; have hval := h.val
    obtain ⟨m, hm⟩ : ∃ m, d - q.length = m + 1 := ⟨d - q.length - 1, by omega⟩
    have hsw : s w = (m : Int) + 1 := by omega
    have own1 : ok1 s d (q, w) := by show s w < 0 ∨ (d : Int) ≤ s w + q.length; omega
    obtain ⟨y, hy, hya, hys⟩ := H.c w hw m hsw
    have hnotD : ∀ u, s u = m → u ∉ D := fun u hu hD => by rcases h.seen u hD with h1 | h1 <;> omega
    obtain ⟨A, B, hk, hA, hn, hnl⟩ := first_in (l := List.range n) (p := fun u => adj w u && decide (u ∉ D)) (q := fun u => adj w u && decide (s u = m))
      (fun u _ hq => by
        simp only [Bool.and_eq_true, decide_eq_true_eq] at hq ⊢
        exact ⟨hq.1, hnotD u hq.2⟩)
      ⟨y, List.mem_range.2 hy, by simp [hya, hys]⟩
    have hk' : kids n adj D w = A ++ nxt n adj s w m :: B := hk
    simp only [Bool.and_eq_true, decide_eq_true_eq] at hn
    have hn1 : adj w (nxt n adj s w m) = true := hn.1
    have hn2 : s (nxt n adj s w m) = m := hn.2
    have hn3 : nxt n adj s w m < n := List.mem_range.1 hnl
    have hin : ∀ u, u ∈ A ∨ u ∈ B → u < n ∧ adj w u = true := fun u hu => by
      have : u ∈ kids n adj D w := by rw [hk']; simp; rcases hu with h | h; exact .inl h; exact .inr (.inr h)
      have := mem_kids.1 this
      exact ⟨this.1, this.2.1⟩
    have hlen : (q ++ [w]).length = q.length + 1 := by simp
    have hway := h.way
    rw [hm] at hway
    have hway2 : q ++ (w :: grd n adj s (nxt n adj s w m) m) = G := hway
    clear hway
    generalize nxt n adj s w m = t at *
    have hdm : d - (q ++ [w]).length = m := by rw [hlen]; omega
    refine ⟨Q ++ A.map (fun u => (q ++ [w], u)), q ++ [w], t, B.map (fun u => (q ++ [w], u)), by rw [hk']; simp, ?_, by rw [hlen]; omega, by rw [hlen, hn2]; omega, hn3, fun r hr => ?_, fun r hr => ?_, fun u hu => ?_⟩
    · rw [hdm, ← hway2]; simp
    · rcases List.mem_append.1 hr with hr | hr
      · obtain ⟨r1, r2, r3, r4⟩ := h.behind r hr
        rw [hlen]; exact ⟨r1, r2, r3, r4⟩
      · obtain ⟨u, hu, rfl⟩ := List.mem_map.1 hr
        obtain ⟨u1, u2⟩ := hin u (.inl hu)
        have k1 := (kid (d := d) (q := q) H hdn hw u1 u2).1 own1
        refine ⟨u1, Nat.le_refl _, k1, fun _ => ?_⟩
        have k1' : s u < 0 ∨ (d : Int) ≤ s u + (q ++ [w]).length := k1
        have hne := hA u hu
        simp [u2] at hne
        show s u < 0 ∨ (d : Int) < s u + (q ++ [w]).length
        rw [hlen] at k1' ⊢
        omega
    · obtain ⟨u, hu, rfl⟩ := List.mem_map.1 hr
      obtain ⟨u1, u2⟩ := hin u (.inr hu)
      exact ⟨u1, by show (q ++ [w]).length ≤ (q ++ [w]).length + 1; omega, (kid (d := d) (q := q) H hdn hw u1 u2).1 own1, fun e => by have e' : (q ++ [w]).length = (q ++ [w]).length + 1 := e; omega⟩
    · rw [hlen]
      rcases List.mem_append.1 hu with hu | hu
      · rcases h.seen u hu with h1 | h1
        · exact .inl h1
        · exact .inr (by omega)
      · obtain ⟨u1, u2, _⟩ := mem_kids.1 hu
        have k1 : s u < 0 ∨ (d : Int) ≤ s u + (q ++ [w]).length := (kid (d := d) (q := q) H hdn hw u1 u2).1 own1
        rw [hlen] at k1
        omega
  | cons x X =>
    injection hQ with h1 h2
    subst h1; subst h2
    obtain ⟨_, hl, o1, o2⟩ := h.before _ (List.mem_cons_self ..)
    have hl' : q.length ≤ pre.length := hl
    have hlen : (q ++ [w]).length = q.length + 1 := by simp
    refine ⟨X, pre, v, Y ++ (kids n adj D w).map (fun u => (q ++ [w], u)), by simp, h.way, h.len, h.val, h.lt, fun r hr => h.before r (List.mem_cons_of_mem _ hr), fun r hr => ?_, fun u hu => ?_⟩
    · rcases List.mem_append.1 hr with hr | hr
      · exact h.behind r hr
      · obtain ⟨u, hu, rfl⟩ := List.mem_map.1 hr
        obtain ⟨u1, u2, _⟩ := mem_kids.1 hu
        have k := kid (d := d) (q := q) H hdn hw u1 u2
        refine ⟨u1, by show (q ++ [w]).length ≤ pre.length + 1; omega, k.1 o1, fun e => k.2 (o2 ?_)⟩
        have e' : (q ++ [w]).length = pre.length + 1 := e
        show q.length = pre.length
        omega
    · rcases List.mem_append.1 hu with hu | hu
      · exact h.seen u hu
      · obtain ⟨u1, u2, _⟩ := mem_kids.1 hu
        have k := kid (d := d) (q := q) H hdn hw u1 u2
        have k1 : s u < 0 ∨ (d : Int) ≤ s u + (q ++ [w]).length := k.1 o1
        rw [hlen] at k1
        by_cases e : q.length = pre.length
        · have k2 : s u < 0 ∨ (d : Int) < s u + (q ++ [w]).length := k.2 (o2 e)
          rw [hlen] at k2
          omega
        · omega
/-- what is seen: no vertex twice, and no way is longer than it. -/
structure Seen (n : Nat) (Q : List Way) (D : List Nat) : Prop where
  nd : D.Nodup
  lt : ∀ u ∈ D, u < n
  way : ∀ r ∈ Q, r.2 < n ∧ r.1.length + 1 ≤ D.length
theorem nodup_le : ∀ (n : Nat) (l : List Nat), l.Nodup → (∀ u ∈ l, u < n) → l.length ≤ n := by
  intro n
  induction n with
  | zero => intro l _ h; cases l with
    | nil => simp
    | cons x l => exact absurd (h x (List.mem_cons_self ..)) (by omega)
  | succ n ih =>
    intro l hd h
    by_cases hm : n ∈ l
    · have h1 := ih (l.erase n) (hd.erase n) (fun u hu => by
        have h2 := (hd.mem_erase_iff).1 hu
        have := h u h2.2; have := h2.1; omega)
      rw [List.length_erase_of_mem hm] at h1
      omega
    · have := ih l hd (fun u hu => by have := h u hu; have : u ≠ n := fun e => hm (e ▸ hu); omega)
      omega
theorem Seen.start {f : Nat} (hf : f < n) : Seen n [([], f)] [f] :=
  ⟨by simp, fun u h => by simp at h; omega, fun r h => by simp at h; subst h; exact ⟨hf, by simp⟩⟩
theorem Seen.le {Q : List Way} {D : List Nat} (h : Seen n Q D) : D.length ≤ n := nodup_le n D h.nd h.lt
theorem kids_nd (D : List Nat) (w : Nat) : (kids n adj D w).Nodup := (List.filter_sublist).nodup List.nodup_range
theorem Seen.step {q : List Nat} {w : Nat} {Q : List Way} {D : List Nat} (h : Seen n ((q, w) :: Q) D) : Seen n (Q ++ (kids n adj D w).map fun u => (q ++ [w], u)) (D ++ kids n adj D w) := by
  refine ⟨?_, fun u hu => ?_, fun r hr => ?_⟩
  · rw [List.nodup_append]
    exact ⟨h.nd, kids_nd D w, fun a ha b hb e => (mem_kids.1 hb).2.2 (e ▸ ha)⟩
  · rcases List.mem_append.1 hu with hu | hu
    · exact h.lt u hu
    · exact (mem_kids.1 hu).1
  · rw [List.length_append]
    rcases List.mem_append.1 hr with hr | hr
    · have := h.way r (List.mem_cons_of_mem _ hr); exact ⟨this.1, by omega⟩
    · obtain ⟨u, hu, rfl⟩ := List.mem_map.1 hr
      have h1 := (h.way _ (List.mem_cons_self ..)).2
      have h1' : q.length + 1 ≤ D.length := h1
      have h2 : 0 < (kids n adj D w).length := List.length_pos_of_mem hu
      exact ⟨(mem_kids.1 hu).1, by show (q ++ [w]).length + 1 ≤ _; simp only [List.length_append, List.length_cons, List.length_nil]; omega⟩
/-- there is no way: none that is found ends there. -/
theorem none_start {f : Nat} (hs : s f < 0) : ∀ r ∈ [(([], f) : Way)], ok1 s n r := fun r h => by simp at h; subst h; exact .inl hs
theorem none_step (H : Steps n adj to s) {q : List Nat} {w : Nat} {Q : List Way} {D : List Nat} (hw : w < n) (h : ∀ r ∈ (q, w) :: Q, ok1 s n r) : ∀ r ∈ Q ++ (kids n adj D w).map fun u => (q ++ [w], u), ok1 s n r := by
  intro r hr
  rcases List.mem_append.1 hr with hr | hr
  · exact h r (List.mem_cons_of_mem _ hr)
  · obtain ⟨u, hu, rfl⟩ := List.mem_map.1 hr
    obtain ⟨u1, u2, _⟩ := mem_kids.1 hu
    exact (kid (d := n) (q := q) H (Nat.le_refl _) hw u1 u2).1 (h _ (List.mem_cons_self ..))
theorem none_end (H : Steps n adj to s) {q : List Nat} {Q : List Way} {D : List Nat} (hS : Seen n ((q, to) :: Q) D) (h : ∀ r ∈ (q, to) :: Q, ok1 s n r) : False := by
  have h1 : s to < 0 ∨ (n : Int) ≤ s to + q.length := h _ (List.mem_cons_self ..)
  rw [H.z] at h1
  have h2 := (hS.way _ (List.mem_cons_self ..)).2
  have h2' : q.length + 1 ≤ D.length := h2
  have := hS.le
  omega
/-- what is waited for: fewer and fewer. -/
theorem less {q : List Nat} {w : Nat} {Q : List Way} {D : List Nat} (h : Seen n ((q, w) :: Q) D) : (n - (D ++ kids n adj D w).length) + (Q ++ (kids n adj D w).map fun u => (q ++ [w], u)).length < (n - D.length) + ((q, w) :: Q).length := by
  have h1 := (Seen.step (adj := adj) h).le
  rw [List.length_append] at h1 ⊢
  rw [List.length_append, List.length_map, List.length_cons]
  omega
end Go.Proofs.Ytncdkfkihfhcgaa.Bfs
